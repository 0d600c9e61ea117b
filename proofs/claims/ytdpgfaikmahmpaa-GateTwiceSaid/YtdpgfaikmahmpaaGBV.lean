
import Derived.Test.YtdpgfaikmahmpaaGAA
import Derived.Test.YtdpgfaikmahmpaaGAC
import Derived.Test.YtdpgfaikmahmpaaGBF
import Derived.Test.YtdpgfaikmahmpaaGBU
set_option linter.unusedSimpArgs false
set_option linter.unusedVariables false
namespace Go.Proofs.Ytdpgfaikmahmpaa
open Go.RowKit
set_option maxRecDepth 100000 in
set_option maxHeartbeats 16000000 in
theorem GateTwice_any (a0 : Option Addr) (len0 cap0 : Nat) (z0 : List Int) (a1 : Option Addr) (len1 cap1 : Nat) (z1 : List Int) (a2 : Option Addr) (len2 cap2 : Nat) (z2 : List Int) (a3 : Int) (w : World) (w0 : RowIn w a0 len0 cap0 z0) (w1_ : RowIn w a1 len1 cap1 z1) (w2_ : RowIn w a2 len2 cap2 z2) (w3_ : (Lit.int .u8 a3).wf = true) :
  Calls Try.prog 13 #[.slice a0 len0 cap0, .slice a1 len1 cap1, .slice a2 len2 cap2, .int .u8 a3] w fun e w' => e = .returned (.bool true) ∧ Below w.heap.size w w' := by
 obtain ⟨hB0, hn⟩ := bytes_of w0
 obtain ⟨hB1, hn1⟩ := bytes_of w1_
 obtain ⟨hB2, hn2⟩ := bytes_of w2_
 have HYO := Lib.hid hB2
 clear hB2 w2_
 obtain ⟨a30, a31⟩ := u8_in w3_
 clear w3_
 have HY0 := Lib.hid hB0
 have HY1 := Lib.hid hB1
 clear hB0 hB1 w0 w1_
 obtain ⟨ti, hti, hti0, hti1, hti2⟩ := info_parts info_hand
 go_enter Try.func13, Try.ntmps13
 go_wp2_with fail
 refine (Fill_any a0 len0 cap0 _ hn).mono ?_
 rintro e w1 ⟨m, rfl, hS1, hb1⟩
 have HS1 := Lib.hid hS1
 have HB1 := Lib.hid hb1
 clear hS1 hb1
 go_wp2_with fail
 refine (Made_any w.heap.size a0 len0 cap0 0 m 4 3 (by decide) (by decide) (by decide) (by decide) w1 HS1.out (HY0.out.up HB1.out) hn (by decide)).mono ?_
 rintro e w2 ⟨err, miss, full, emp, m0, m1, m2, m3, gs, hs, G, H, d, q, tk1, mm, rfl, hok, hgl, hhl, hog, hoh, -, -, hg2⟩
 have hgl2 : gs.length ≤ 4 := by omega
 have hhl4 : hs.length ≤ 3 := by omega
 have HB2 := Lib.hid (HB1.out.grown hg2 (by have := HS1.out.lt; omega) (fun k hk => by cases hk; exact Nat.le_refl _))
 have hs1 := HB1.out.size
 have hz2 := HB2.out.size
 have HOG := Lib.hid (OwnGrades.base hog hs1)
 have HOH := Lib.hid (OwnHands.base hoh hs1)
 have HOK := Lib.hid hok
 clear hok hog hoh hg2 HS1 HB1
 obtain ⟨e0, e1, i0m, i1m, y0_, y1_, f0, f1, _, _, _⟩ := HOK.out
 have i2m : miss ≤ 20 := by omega
 go_wp2_with fail
 refine (Fill_any a1 len1 cap1 _ hn1).mono ?_
 simp only [World.size_alloc]
 rintro e w3 ⟨sm, rfl, hS3, hb3⟩
 have Hs3 : Hid (Holds w3 (w2.heap.size + 1 + 1 + 1) 172 #[.slice a1 len1 cap1, .int .i64 ((0 : Nat) : Int), .int .u32 sm]) := Lib.hid hS3
 have Hg3 := Lib.hid (Holds.low (zp4 : Holds _ (w2.heap.size) 24 #[.int .i64 err, .int .i64 miss, .slice G gs.length d]) hb3 (by omega))
 have Hc3 := Lib.hid (Holds.low (zp4 : Holds _ (w2.heap.size + 1) 27 #[.int .i64 full, .int .i64 emp, .slice H hs.length q]) hb3 (by omega))
 have Hm3 := Lib.hid (Holds.low (zp4 : Holds _ (w2.heap.size + 1 + 1) 28 #[.int .i64 m0, .int .i64 m1, .int .i64 m2, .int .i64 m3]) hb3 (by omega))
 have HB3 : Hid (Below w2.heap.size w2 w3) := Lib.hid (Below.trans zg (hb3.mono (by omega)))
 have hsz3 := HB3.out.size
 have ls3 := hS3.lt
 clear hb3 hS3
 have HY3 := Lib.hid (HY1.out.up (HB2.out.trans (HB3.out.mono hz2)))
 have HOG3 := Lib.hid (HOG.out.up HB3.out)
 have HOH3 := Lib.hid (HOH.out.up HB3.out)
 go_wp2_with fail
 refine (Mixed_any (w2.heap.size + 1 + 1 + 1) a1 len1 cap1 0 sm _ Hs3.out HY3.out hn1 (by decide)).mono ?_
 rintro e w4 ⟨n0, n1, n2, n3, tk4, sm4, rfl, hmix, htk4, hs4_, hg4⟩
 have HNX := Lib.hid hmix
 have HS4 := Lib.hid hs4_
 have Hg4 := Lib.hid (Holds.grown Hg3.out hg4 (by omega))
 have Hc4 := Lib.hid (Holds.grown Hc3.out hg4 (by omega))
 have Hm4 := Lib.hid (Holds.grown Hm3.out hg4 (by omega))
 have hs34 := hg4.size
 have HB4 : Hid (Below w.heap.size w w4) := Lib.hid ((HB2.out.trans (HB3.out.mono hz2)).grown hg4 (by omega) (fun k hk => by cases hk; omega))
 have HY4 := Lib.hid (HY3.out.grown Hs3.out hg4)
 have HOH4 := Lib.hid (row_other_block HOH3.out Hs3.out (by decide) hg4)
 have HOG4 := Lib.hid (grades_other_block HOG3.out Hs3.out (by decide) hg4)
 clear hmix hs4_ hg4
 go_wp2_with fail
 refine (Below_any (w2.heap.size + 1 + 1 + 1) a1 len1 cap1 tk4 sm4 3 _ (by have h := HS4.out; exact zp4) (HY4.out.up zg) hn1 (by omega) (by decide) (by decide)).mono ?_
 rintro e w5 ⟨rr, sm5, rfl, rr0, rr1, _, hs5_, hg5⟩
 have HS5 := Lib.hid hs5_
 have ls4 := HS4.out.lt
 have Hg5 := Lib.hid (Holds.grown (by have h := Hg4.out; exact zp4 : Holds _ (w2.heap.size) 24 #[.int .i64 err, .int .i64 miss, .slice G gs.length d]) hg5 (by omega))
 have Hc5 := Lib.hid (Holds.grown (by have h := Hc4.out; exact zp4 : Holds _ (w2.heap.size + 1) 27 #[.int .i64 full, .int .i64 emp, .slice H hs.length q]) hg5 (by omega))
 have Hm5 := Lib.hid (Holds.grown (by have h := Hm4.out; exact zp4 : Holds _ (w2.heap.size + 1 + 1) 28 #[.int .i64 m0, .int .i64 m1, .int .i64 m2, .int .i64 m3]) hg5 (by omega))
 have Hn5 := Lib.hid (Holds.grown (zp4 : Holds _ (w4.heap.size) 28 #[.int .i64 n0, .int .i64 n1, .int .i64 n2, .int .i64 n3]) hg5 (by omega))
 have hs45 := hg5.size
 simp only [World.size_alloc] at hs45
 have HB5 : Hid (Below w.heap.size w w5) := Lib.hid (Below.grown (Below.trans HB4.out zg) hg5 (by simp; omega) (fun k hk => by cases hk; omega))
 have hsz5 := HB5.out.size
 have hb4a : Below w4.heap.size w4 (w4.alloc (.cells #[.int .i64 n0, .int .i64 n1, .int .i64 n2, .int .i64 n3] 28)) := by (repeat' (first | (with_reducible first | exact Below.refl _ _ | assumption | refine Below.alloc ?_ ?_ _ | refine Below.drew ?_ | refine Below.setCell ?_ ?_ _ | exact Nat.le_refl _) | omega | (simp only [World.size_alloc, World.size_setCell, World.size_drew]; omega) | (simp; omega) | (simp; done)))
 have HS4a := (Holds.alloc HS4.out (.cells #[.int .i64 n0, .int .i64 n1, .int .i64 n2, .int .i64 n3] 28))
 have HY5 := Lib.hid ((HY4.out.up hb4a).grown HS4a hg5)
 have HOH5 := Lib.hid (row_other_block (row5_up HOH4.out hb4a) HS4a (by decide) hg5)
 have HOG5 := Lib.hid (grades_other_block (OwnGrades.up HOG4.out hb4a) HS4a (by decide) hg5)
 clear hb4a HS4a
 clear hs5_ hg5
 go_wp2_with fail
 have HL0 : (0 : Int) ≤ rr := rr0
 go_loopw [43] (fun v43 wr => WdRel w.heap.size (w2.heap.size + 1 + 1 + 1) (w2.heap.size + 1) a1 len1 cap1 full emp miss n0 n1 n2 n3 hs rr w5 v43 wr) (fun v43 _ => (rr - intOf v43).toNat)
 case atStart => exact ⟨[], .slice H hs.length q, tk4 + 1, sm5, rfl, rr0, (fun _ h => absurd h (List.not_mem_nil)), by simp; omega, HS5.out, Hc5.out, (by rw [List.append_nil]; exact HOH5.out), But.refl _ _ _⟩
 case round =>
  obtain ⟨ex, sv, tk, mm_, rfl, hxr, hxt, htk, hSr, hCr, hOr, hBr⟩ := hrel
  have HSr := Lib.hid hSr
  have HCr := Lib.hid hCr
  have HQr := Lib.hid hBr
  have HXT := Lib.hid hxt
  have hszr := hBr.size
  have hxl2 : ex.length ≤ 2 := by omega
  obtain ⟨la, hla⟩ : ∃ z, z = hs ++ ex := ⟨_, rfl⟩
  have lal : la.length = hs.length + ex.length := by rw [hla, List.length_append]
  have la6 : la.length ≤ 5 := by omega
  have LAL := Lib.hid lal
  clear lal
  rw [← hla] at hOr
  have HOr := Lib.hid hOr
  have HLA := Lib.hid hla
  clear hSr hCr hBr hOr hla hxt
  by_cases hlt : (ex.length : Int) < rr
  ·have HRR := Lib.hid rr1
   go_wp2_with fail
   rename_i Kc hKc
   have HSL := Lib.hid (show slotsOf [some 45, some 46, some 47, some 48, some 49, some 50, some 51, some 52, some 53, none] = [45, 46, 47, 48, 49, 50, 51, 52, 53] from rfl)
   refine wp_region_partsG (by kernel_rfl) [some 45, some 46, some 47, some 48, some 49, some 50, some 51, some 52, some 53, none] (fun jq xq w' => match jq with
    | 0 => xq 45 = .pointer (some ⟨w2.heap.size + 1, 2, none⟩)
    | 1 => xq 46 = sv
    | 2 => xq 47 = .pointer (some ⟨w2.heap.size + 1 + 1 + 1, 0, none⟩)
    | 3 => xq 48 = .agg #[.int .i64 err, .int .i64 miss, .slice G gs.length d]
    | 4 => xq 49 = .agg #[.int .i64 n0, .int .i64 n1, .int .i64 n2, .int .i64 n3]
    | 5 => ∃ y tkx mmx, xq 50 = .agg #[.int .i64 y.spot, .int .i64 y.g0, .int .i64 y.g1, .int .i64 y.g2, .int .i64 y.g3] ∧ TakenOk miss n0 n1 n2 n3 y ∧ tkx ≤ tk + 8 ∧ Holds w' (w2.heap.size + 1 + 1 + 1) 172 #[.slice a1 len1 cap1, .int .i64 ((tkx : Nat) : Int), .int .u32 mmx]
    | 6 => ∃ b y, xq 51 = .slice (some ⟨b, 0, none⟩) 1 1 ∧ Holds w' b 30 y.cells.toArray ∧ TakenOk miss n0 n1 n2 n3 y
    | 7 => ∃ A2 d2 y, xq 52 = .slice A2 (la.length + 1) d2 ∧ OwnHands w' w.heap.size (.slice A2 (la.length + 1) d2) (la ++ [y]) ∧ TakenOk miss n0 n1 n2 n3 y
    | 8 => xq 53 = .pointer (some ⟨w2.heap.size + 1, 2, none⟩)
    | 9 => ∃ A2 d2 y, Holds w' (w2.heap.size + 1) 27 #[.int .i64 full, .int .i64 emp, .slice A2 (la.length + 1) d2] ∧ OwnHands w' w.heap.size (.slice A2 (la.length + 1) d2) (la ++ [y]) ∧ TakenOk miss n0 n1 n2 n3 y
    | 10 => Holds w' (w2.heap.size + 1 + 1 + 1) 172 #[.slice a1 len1 cap1, .int .i64 ((tk : Nat) : Int), .int .u32 mm_]
    | 11 => Holds w' (w2.heap.size + 1) 27 #[.int .i64 full, .int .i64 emp, sv]
    | 12 => OwnHands w' w.heap.size sv la
    | _ => True) [[45], [46], [47], [48], [49], [50], [51], [52], [53], [], [], [], []] [(5, 10), (7, 10), (9, 10), (7, 6), (9, 6), (7, 12), (9, 11)] (fun w' => But w.heap.size [w2.heap.size + 1 + 1 + 1, w2.heap.size + 1] w5 w') (by kernel_rfl)  ?_ ?_ (fun w' w'' hb h => h.up hsz5 hb) (HQr.out) ?_ ?_ ?_
   ·intro jq xq xq' wqq h hv
    match jq, h, hv with
    | 0, h, hv => show xq' 45 = .pointer (some ⟨w2.heap.size + 1, 2, none⟩); rw [← h 45 (by decide)]; exact hv
    | 1, h, hv => show xq' 46 = sv; rw [← h 46 (by decide)]; exact hv
    | 2, h, hv => show xq' 47 = .pointer (some ⟨w2.heap.size + 1 + 1 + 1, 0, none⟩); rw [← h 47 (by decide)]; exact hv
    | 3, h, hv => show xq' 48 = .agg #[.int .i64 err, .int .i64 miss, .slice G gs.length d]; rw [← h 48 (by decide)]; exact hv
    | 4, h, hv => show xq' 49 = .agg #[.int .i64 n0, .int .i64 n1, .int .i64 n2, .int .i64 n3]; rw [← h 49 (by decide)]; exact hv
    | 5, h, hv => show ∃ y tkx mmx, xq' 50 = .agg #[.int .i64 y.spot, .int .i64 y.g0, .int .i64 y.g1, .int .i64 y.g2, .int .i64 y.g3] ∧ TakenOk miss n0 n1 n2 n3 y ∧ tkx ≤ tk + 8 ∧ Holds wqq (w2.heap.size + 1 + 1 + 1) 172 #[.slice a1 len1 cap1, .int .i64 ((tkx : Nat) : Int), .int .u32 mmx]; rw [← h 50 (by decide)]; exact hv
    | 6, h, hv => show ∃ b y, xq' 51 = .slice (some ⟨b, 0, none⟩) 1 1 ∧ Holds wqq b 30 y.cells.toArray ∧ TakenOk miss n0 n1 n2 n3 y; rw [← h 51 (by decide)]; exact hv
    | 7, h, hv => show ∃ A2 d2 y, xq' 52 = .slice A2 (la.length + 1) d2 ∧ OwnHands wqq w.heap.size (.slice A2 (la.length + 1) d2) (la ++ [y]) ∧ TakenOk miss n0 n1 n2 n3 y; rw [← h 52 (by decide)]; exact hv
    | 8, h, hv => show xq' 53 = .pointer (some ⟨w2.heap.size + 1, 2, none⟩); rw [← h 53 (by decide)]; exact hv
    | 9, h, hv => exact hv
    | 10, h, hv => exact hv
    | 11, h, hv => exact hv
    | 12, h, hv => exact hv
    | _ + 13, _, _ => trivial
   ·intro jq xq wqq w' hb' hv
    match jq, hv with
    | 0, hv => exact hv
    | 1, hv => exact hv
    | 2, hv => exact hv
    | 3, hv => exact hv
    | 4, hv => exact hv
    | 5, ⟨b0, b1, b2, h0, h1, h2, h3⟩ => exact ⟨b0, b1, b2, h0, h1, h2, h3.up hb'⟩
    | 6, ⟨b0, b1, h0, h1, h2⟩ => exact ⟨b0, b1, h0, h1.up hb', h2⟩
    | 7, ⟨b0, b1, b2, h0, h1, h2⟩ => exact ⟨b0, b1, b2, h0, h1.up hb', h2⟩
    | 8, hv => exact hv
    | 9, ⟨b0, b1, b2, h0, h1, h2⟩ => exact ⟨b0, b1, b2, h0.up hb', h1.up hb', h2⟩
    | 10, h0 => exact h0.up hb'
    | 11, h0 => exact h0.up hb'
    | 12, h0 => exact h0.up hb'
    | _ + 13, _ => trivial
   ·intro jq hj
    match jq, hj with
    | 0, hj => exact absurd hj (by decide)
    | 1, hj => exact absurd hj (by decide)
    | 2, hj => exact absurd hj (by decide)
    | 3, hj => exact absurd hj (by decide)
    | 4, hj => exact absurd hj (by decide)
    | 5, hj => exact absurd hj (by decide)
    | 6, hj => exact absurd hj (by decide)
    | 7, hj => exact absurd hj (by decide)
    | 8, hj => exact absurd hj (by decide)
    | 9, hj => exact absurd hj (by decide)
    | 10, _ => exact HSr.out
    | 11, _ => exact HCr.out
    | 12, _ => exact HOr.out
    | _ + 13, _ => trivial
   ·refine ⟨?_, ?_, ?_, ?_, ?_, ?_, ?_, ?_, ?_, ?_, trivial⟩
    ·intro xq w6 hb6 hx K hK0
     have hK := fun v w' hb => hK0 v w' (.inl hb)
     clear hx hKc hK0
     have hsz1 := hb6.size
     simp only [frameOf, fill, setSlot, sg, Nat.reduceBEq, if_true, if_false, Nat.reduceAdd, Nat.reduceEqDiff, HSL.out] at hK ⊢
     go_wp2_with (fail)
     exact hK _ _ (Below.refl _ _) rfl
    ·intro xq w6 hb6 hx K hK0
     have hK := fun v w' hb => hK0 v w' (.inl hb)
     have e45 : xq 45 = .pointer (some ⟨w2.heap.size + 1, 2, none⟩) := hx 0 (by rfl) (by rfl)
     have fic_0 : Holds w6 (w2.heap.size + 1) 27 #[.int .i64 full, .int .i64 emp, sv] := hx 11 (by rfl) (by rfl)
     clear hx hKc hK0
     have hsz1 := hb6.size
     obtain ⟨kc0, kc1, kc2⟩ := fic_0.c3
     simp only [frameOf, fill, setSlot, sg, Nat.reduceBEq, if_true, if_false, Nat.reduceAdd, Nat.reduceEqDiff, HSL.out] at hK ⊢
     simp only [e45] at hK ⊢
     clear e45
     go_wp2_with (fail)
     exact hK _ _ (Below.refl _ _) rfl
    ·intro xq w6 hb6 hx K hK0
     have hK := fun v w' hb => hK0 v w' (.inl hb)
     clear hx hKc hK0
     have hsz1 := hb6.size
     simp only [frameOf, fill, setSlot, sg, Nat.reduceBEq, if_true, if_false, Nat.reduceAdd, Nat.reduceEqDiff, HSL.out] at hK ⊢
     go_wp2_with (fail)
     exact hK _ _ (Below.refl _ _) rfl
    ·intro xq w6 hb6 hx K hK0
     have hK := fun v w' hb => hK0 v w' (.inl hb)
     clear hx hKc hK0
     have hsz1 := hb6.size
     have hq := Hg5.out.but hb6 (by simp; omega) (by decide)
     obtain ⟨kg0, kg1, kg2⟩ := hq.c3
     clear hq
     simp only [frameOf, fill, setSlot, sg, Nat.reduceBEq, if_true, if_false, Nat.reduceAdd, Nat.reduceEqDiff, HSL.out] at hK ⊢
     go_wp2_with (fail)
     exact hK _ _ (Below.refl _ _) rfl
    ·intro xq w6 hb6 hx K hK0
     have hK := fun v w' hb => hK0 v w' (.inl hb)
     clear hx hKc hK0
     have hsz1 := hb6.size
     have hq := Hn5.out.but hb6 (by simp; omega) (by decide)
     obtain ⟨kn0, kn1, kn2, kn3⟩ := hq.c4
     clear hq
     simp only [frameOf, fill, setSlot, sg, Nat.reduceBEq, if_true, if_false, Nat.reduceAdd, Nat.reduceEqDiff, HSL.out] at hK ⊢
     go_wp2_with (fail)
     exact hK _ _ (Below.refl _ _) rfl
    ·intro xq w6 hb6 hx K hK0
     have hK := fun v w' hb => hK0 v w' (.inr hb)
     have e47 : xq 47 = .pointer (some ⟨w2.heap.size + 1 + 1 + 1, 0, none⟩) := hx 2 (by rfl) (by rfl)
     have e48 : xq 48 = .agg #[.int .i64 err, .int .i64 miss, .slice G gs.length d] := hx 3 (by rfl) (by rfl)
     have e49 : xq 49 = .agg #[.int .i64 n0, .int .i64 n1, .int .i64 n2, .int .i64 n3] := hx 4 (by rfl) (by rfl)
     have fiS_0 : Holds w6 (w2.heap.size + 1 + 1 + 1) 172 #[.slice a1 len1 cap1, .int .i64 ((tk : Nat) : Int), .int .u32 mm_] := hx 10 (by rfl) (by rfl)
     clear hx hKc hK0
     have hsz1 := hb6.size
     simp only [frameOf, fill, setSlot, sg, Nat.reduceBEq, if_true, if_false, Nat.reduceAdd, Nat.reduceEqDiff, HSL.out] at hK ⊢
     simp only [e47, e48, e49] at hK ⊢
     clear e47 e48 e49
     go_wp2_with (go_at_call 69; refine (Taken_any (w2.heap.size + 1 + 1 + 1) a1 len1 cap1 tk mm_ err miss G gs.length d n0 n1 n2 n3 HNX.out i0m i2m _ fiS_0 (HY1.out.up (HB5.out.trans hb6.below)) hn1 (by omega)).mono ?_; rintro e w2_ ⟨y, tkx, mmx, rfl, hok, htk', hsk, g⟩)
     refine hK _ _ ⟨(hb6.listed hsz5 g (by simp) (by omega)), ?_⟩ ⟨y, tkx, mmx, rfl, hok, htk', hsk⟩
     intro jq xq hd hne hv
     match jq, hd, hne, hv with
     | 0, _, _, hv => exact hv
     | 1, _, _, hv => exact hv
     | 2, _, _, hv => exact hv
     | 3, _, _, hv => exact hv
     | 4, _, _, hv => exact hv
     | 5, _, hne, _ => exact absurd rfl hne
     | 6, _, _, hv => obtain ⟨b, y', e1, h1, h2⟩ := hv; exact ⟨b, y', e1, h1.other fiS_0 g (by decide), h2⟩
     | 7, _, _, hv => obtain ⟨a1_, d1, y', e1, h1, h2⟩ := hv; exact ⟨a1_, d1, y', e1, row_other_block h1 fiS_0 (by decide) g, h2⟩
     | 8, _, _, hv => exact hv
     | 9, _, _, hv => obtain ⟨a1_, d1, y', h0, h1, h2⟩ := hv; exact ⟨a1_, d1, y', h0.other fiS_0 g (by decide), row_other_block h1 fiS_0 (by decide) g, h2⟩
     | 10, hd, _, _ => exact absurd hd (by decide)
     | 11, _, _, hv => exact Holds.other hv fiS_0 g (by decide)
     | 12, _, _, hv => exact row_other_block hv fiS_0 (by decide) g
     | _ + 13, _, _, _ => trivial
    ·intro xq w6 hb6 hx K hK0
     have hK := fun v w' hb => hK0 v w' (.inl hb)
     obtain ⟨y50, tkx50, mmx50, e50, f50_0, f50_1, f50_2⟩ := hx 5 (by rfl) (by rfl)
     clear hx hKc hK0
     have hsz1 := hb6.size
     simp only [frameOf, fill, setSlot, sg, Nat.reduceBEq, if_true, if_false, Nat.reduceAdd, Nat.reduceEqDiff, HSL.out] at hK ⊢
     simp only [e50] at hK ⊢
     clear e50
     go_wp2_with (fail)
     exact hK _ _ ((Below.refl _ _).alloc (Nat.le_refl _) _) ⟨_, _, rfl, Holds.new _ _ _, f50_0⟩
    ·intro xq w6 hb6 hx K hK0
     have hK := fun v w' hb => hK0 v w' (.inr hb)
     have e46 : xq 46 = sv := hx 1 (by rfl) (by rfl)
     obtain ⟨b51, y51, e51, f51_0, f51_1⟩ := hx 6 (by rfl) (by rfl)
     have fio_0 : OwnHands w6 w.heap.size sv la := hx 12 (by rfl) (by rfl)
     have fic_0 : Holds w6 (w2.heap.size + 1) 27 #[.int .i64 full, .int .i64 emp, sv] := hx 11 (by rfl) (by rfl)
     clear hx hKc hK0
     have hsz1 := hb6.size
     have HO1 : Hid (w6.ownsRow w.heap.size 30 5 sv la.length (la.flatMap Hf.cells)) := Lib.hid fio_0
     simp only [frameOf, fill, setSlot, sg, Nat.reduceBEq, if_true, if_false, Nat.reduceAdd, Nat.reduceEqDiff, HSL.out] at hK ⊢
     simp only [e46, e51] at hK ⊢
     clear e46 e51
     go_wp2_with (at_builtin; (refine wpList_append_own _ rfl _ _ 25 rfl w.heap.size 30 ti _ 5 40 und_hands hti hti0 hti1 hti2 rfl (by decide) _ _ _ rfl HO1.out ⟨b51, 0, none⟩ 1 1 y51.cells rfl rfl (holds_news f51_0) (hand_one _) (by unfold maxLen; omega) (by omega) (by omega) ?_); intro v5 w5_ hown5 hgrow5 _; obtain ⟨A5, c5, rfl, _⟩ := row5_val hown5; have ho5 := OwnHands.snoc (h := y51) hown5; have HO5 := Lib.hid ho5; have HG5 := Lib.hid hgrow5; clear hown5 hgrow5 ho5)
     refine hK _ _ ⟨(hb6.row hsz5 HO1.out (Nat.le_refl _) HG5.out), ?_⟩ ⟨_, _, _, rfl, HO5.out, f51_1⟩
     intro jq xq hd hne hv
     match jq, hd, hne, hv with
     | 0, _, _, hv => exact hv
     | 1, _, _, hv => exact hv
     | 2, _, _, hv => exact hv
     | 3, _, _, hv => exact hv
     | 4, _, _, hv => exact hv
     | 5, _, _, hv => obtain ⟨y', x6, x7, e1, h1, h2, h3⟩ := hv; exact ⟨y', x6, x7, e1, h1, h2, h3.row_turned HO1.out (by decide) HG5.out⟩
     | 6, hd, _, _ => exact absurd hd (by decide)
     | 7, _, hne, _ => exact absurd rfl hne
     | 8, _, _, hv => exact hv
     | 9, _, _, hv => obtain ⟨_, _, _, h9, _⟩ := hv; exact (row_over h9 fic_0 HO1.out rfl).elim
     | 10, hd, _, _ => exact absurd hd (by decide)
     | 11, _, _, hv => exact Holds.row_turned hv HO1.out (by decide) HG5.out
     | 12, hd, _, _ => exact absurd hd (by decide)
     | _ + 13, _, _, _ => trivial
    ·intro xq w6 hb6 hx K hK0
     have hK := fun v w' hb => hK0 v w' (.inl hb)
     clear hx hKc hK0
     have hsz1 := hb6.size
     simp only [frameOf, fill, setSlot, sg, Nat.reduceBEq, if_true, if_false, Nat.reduceAdd, Nat.reduceEqDiff, HSL.out] at hK ⊢
     go_wp2_with (fail)
     exact hK _ _ (Below.refl _ _) rfl
    ·intro xq w6 hb6 hx K hK0
     have hK := fun v w' hb => hK0 v w' (.inr hb)
     obtain ⟨A252, d252, y52, e52, f52_0, f52_1⟩ := hx 7 (by rfl) (by rfl)
     have e53 : xq 53 = .pointer (some ⟨w2.heap.size + 1, 2, none⟩) := hx 8 (by rfl) (by rfl)
     have fic_0 : Holds w6 (w2.heap.size + 1) 27 #[.int .i64 full, .int .i64 emp, sv] := hx 11 (by rfl) (by rfl)
     clear hx hKc hK0
     have hsz1 := hb6.size
     obtain ⟨kc0, kc1, kc2⟩ := fic_0.c3
     obtain ⟨zc0, zc1, zc2⟩ := fic_0.f3
     simp only [frameOf, fill, setSlot, sg, Nat.reduceBEq, if_true, if_false, Nat.reduceAdd, Nat.reduceEqDiff, HSL.out] at hK ⊢
     have E52 := Lib.hid e52
     have E53 := Lib.hid e53
     simp only [e52, e53] at hK ⊢
     clear e52 e53
     go_wp2_with (fail)
     refine hK undef _ ⟨(hb6.listed hsz5 (grown_set w6 ⟨w2.heap.size + 1, 2, none⟩ _) (by simp) (by show w.heap.size ≤ w2.heap.size + 1; omega)), ?_⟩ ⟨A252, d252, y52, (by have h := fic_0; exact zp4), row_other_block f52_0 fic_0 (by decide) (grown_set w6 ⟨w2.heap.size + 1, 2, none⟩ _), f52_1⟩
     intro jq xq hd hne hv
     match jq, hd, hne, hv with
     | 0, _, _, hv => exact hv
     | 1, _, _, hv => exact hv
     | 2, _, _, hv => exact hv
     | 3, _, _, hv => exact hv
     | 4, _, _, hv => exact hv
     | 5, _, _, hv => obtain ⟨y', x6, x7, e1, h1, h2, h3⟩ := hv; exact ⟨y', x6, x7, e1, h1, h2, h3.far (by simp only [ne_eq]; omega) _⟩
     | 6, hd, _, _ => exact absurd hd (by decide)
     | 7, _, _, hv => obtain ⟨a1_, d1, y', e1, h1, h2⟩ := hv; exact ⟨a1_, d1, y', e1, row_other_block h1 fic_0 (by decide) (grown_set w6 ⟨w2.heap.size + 1, 2, none⟩ _), h2⟩
     | 8, _, _, hv => exact hv
     | 9, _, hne, _ => exact absurd rfl hne
     | 10, hd, _, _ => exact absurd hd (by decide)
     | 11, hd, _, _ => exact absurd hd (by decide)
     | 12, _, _, hv => exact row_other_block hv fic_0 (by decide) (grown_set w6 ⟨w2.heap.size + 1, 2, none⟩ _)
     | _ + 13, _, _, _ => trivial
   ·intro xq w6 hb6 hx
    have e45 : xq 45 = .pointer (some ⟨w2.heap.size + 1, 2, none⟩) := hx 0 (by decide)
    have e46 : xq 46 = sv := hx 1 (by decide)
    have e47 : xq 47 = .pointer (some ⟨w2.heap.size + 1 + 1 + 1, 0, none⟩) := hx 2 (by decide)
    have e48 : xq 48 = .agg #[.int .i64 err, .int .i64 miss, .slice G gs.length d] := hx 3 (by decide)
    have e49 : xq 49 = .agg #[.int .i64 n0, .int .i64 n1, .int .i64 n2, .int .i64 n3] := hx 4 (by decide)
    obtain ⟨y50, tkx50, mmx50, e50, f50_0, f50_1, f50_2⟩ := hx 5 (by decide)
    obtain ⟨A252, d252, y52, e52, f52_0, f52_1⟩ := hx 7 (by decide)
    have e53 : xq 53 = .pointer (some ⟨w2.heap.size + 1, 2, none⟩) := hx 8 (by decide)
    obtain ⟨A2n9, d2n9, yn9, fn9_0, fn9_1, fn9_2⟩ := hx 9 (by decide)
    clear hx
    have hsz1 := hb6.size
    simp only [frameOf, fill, setSlot, sg, Nat.reduceBEq, if_true, if_false, Nat.reduceAdd, Nat.reduceEqDiff, HSL.out]
    simp only [e45, e46, e47, e48, e49, e50, e52, e53]
    clear e45 e46 e47 e48 e49 e50 e52 e53
    refine hKc _ _ ?_
    have hszz := fn9_0.lt
    go_wp2_with fail
    go_roundw
    case rel =>
     refine ⟨ex ++ [yn9], _, tkx50, mmx50, (by rw [List.length_append, List.length_singleton]; first | rfl | go_num | simp), (by rw [List.length_append, List.length_singleton]; omega), ?_, (by rw [List.length_append, List.length_singleton]; omega), f50_2, fn9_0, (by rw [← List.append_assoc, ← HLA.out]; exact fn9_1), hb6⟩
     intro z hz
     rcases List.mem_append.1 hz with hz | hz
     ·exact HXT.out z hz
     ·rw [List.mem_singleton] at hz; subst hz; exact fn9_2
    case measure => simp [intOf]; omega
  ·have hre : (ex.length : Int) = rr := by omega
   clear hlt
   have HORo := HOr
   obtain ⟨H', q', e1, hq', hH'⟩ := OwnHands.at_ HOr.out
   subst e1
   have HHr := Lib.hid hH'
   have Hccr := HCr
   have Hgr := Lib.hid (Hg5.out.but HQr.out (by simp; omega) (by decide))
   have hogr := HOG5.out.but HQr.out (fun l hl cs f e => by rcases List.mem_cons.1 hl with rfl | hl; (have := HS5.out.symm.trans e; simp at this); rcases List.mem_cons.1 hl with rfl | hl; (have := Hc5.out.symm.trans e; simp at this); cases hl)
   obtain ⟨_, _, e1, hgd, hG⟩ := OwnGrades.at_ hogr
   cases e1
   have HGr := Lib.hid hG
   have HBr : Hid (Below w.heap.size w wr) := Lib.hid (HB5.out.trans HQr.out.below)
   have hsr := HBr.out.size
   clear hH' hogr hG
   have hlt_ : ∀ x ∈ la, x.taken = true ∧ x.enough = true := by rw [HLA.out]; intro x hx; rcases List.mem_append.1 hx with hx | hx; exact ⟨(HOK.out.taken x hx).taken, (HOK.out.taken x hx).enough⟩; exact ⟨(HXT.out x hx).taken, (HXT.out x hx).enough⟩
   have hce : cartErr full emp la = 0 := cart_zero (by omega) (by omega) (by omega) (by omega) (by omega) hlt_
   have hge := HOK.out.gate (by omega)
   have hbe : bothErr err miss gs full emp la = 0 := by unfold bothErr; rw [hge, hce]; simp
   have hpos : ∀ x ∈ la, 0 < x.sum := fun x hx => by have := enough_parts (hlt_ x hx).2; show 0 < x.g0 + x.g1 + x.g2 + x.g3; omega
   have HPOS := Lib.hid hpos
   have HE := Lib.hid hbe
   have HTE := Lib.hid hlt_
   clear hbe hlt_ hce hge hpos
   have hgl' : gs.length ≤ 1000 := by omega
   have hla' : la.length ≤ 1000 := by omega
   have hnr := nil_row HORo.out
   obtain ⟨kcc0, kcc1, kcc2⟩ := Hccr.out.c3
   have lt_cc : w2.heap.size + 1 < wr.heap.size := Hccr.out.lt
   go_wp2_with fail
   refine (Owned_any full emp H' q' la _ (HHr.out.up zg) hla' hnr).mono ?_
   rintro e w7 ⟨D, e, rfl, hown, hde, hb7⟩
   have Hg7 := Lib.hid (Holds.up (by have h := Hgr.out; exact zp4 : Holds _ (w2.heap.size) 24 #[.int .i64 err, .int .i64 miss, .slice G gs.length d]) hb7)
   have Hcc7 := Lib.hid (Holds.up (by have h := Hccr.out; exact zp4 : Holds _ (w2.heap.size + 1) 27 #[.int .i64 full, .int .i64 emp, .slice H' la.length q']) hb7)
   have HS7 : Hid (Below wr.heap.size wr w7) := Lib.hid (Below.trans zg (hb7.mono (by first | exact Nat.le_refl _ | omega | (simp; done) | (simp; omega))))
   have HB7 : Hid (Below w.heap.size w w7) := Lib.hid (HBr.out.trans (HS7.out.mono hsr))
   have hs7 := HB7.out.size
   have hst7 := HS7.out.size
   have HG7 := Lib.hid (HGr.out.up HS7.out)
   have HH7 := Lib.hid (HHr.out.up HS7.out)
   clear hb7
   have HD7 := Lib.hid hown
   have hD7 := row_lt hown
   have hD0 := row5_block hown
   clear hown hnr
   clear kcc0 kcc1 kcc2 lt_cc
   obtain ⟨w8, hw8⟩ : ∃ z, z = w7.alloc (.cells #[.int .i64 full, .int .i64 emp, .slice D la.length e] 27) := ⟨_, rfl⟩
   have Hdc8 : Hid (Holds w8 (w7.heap.size) 27 #[.int .i64 full, .int .i64 emp, .slice D la.length e]) := Lib.hid (by rw [hw8]; exact Holds.new _ _ _)
   have HS8 : Hid (Below w7.heap.size w7 w8) := Lib.hid (by rw [hw8]; exact (Below.refl _ _).alloc (Nat.le_refl _) _)
   have HB8 := Lib.hid (HB7.out.trans (HS8.out.mono hs7))
   have hs8 := HB8.out.size
   have hst8 := HS8.out.size
   have HD8 := Lib.hid (HD7.out.up HS8.out)
   have Hg8 := Lib.hid (Hg7.out.up HS8.out)
   have Hcc8 := Lib.hid (Hcc7.out.up HS8.out)
   have HG8 := Lib.hid (HG7.out.up HS8.out)
   have HH8 := Lib.hid (HH7.out.up HS8.out)
   go_wp2_with fail
   rw [← hw8]
   clear hw8
   rename_i Kc hKc
   have HSL := Lib.hid (show slotsOf [some 57, some 58, some 59, some 60, some 61, some 62, some 63, some 64] = [57, 58, 59, 60, 61, 62, 63, 64] from rfl)
   refine wp_region_partsG (by kernel_rfl) [some 57, some 58, some 59, some 60, some 61, some 62, some 63, some 64] (fun jq xq w' => match jq with
    | 0 => xq 57 = .slice a2 len2 cap2
    | 1 => ∃ b mm, xq 58 = .pointer (some ⟨b, 0, none⟩) ∧ w7.heap.size < b ∧ Holds w' b 172 #[.slice a2 len2 cap2, .int .i64 ((0 : Nat) : Int), .int .u32 mm]
    | 2 => xq 59 = .pointer (some ⟨w2.heap.size + 1, 2, none⟩)
    | 3 => xq 60 = .slice H' la.length q'
    | 4 => xq 61 = .int .i64 (la.length : Int)
    | 5 => ∃ A c xs S, xq 62 = .slice A xs.length c ∧ OwnInts w' S (.slice A xs.length c) xs ∧ Shuffled la.length xs ∧ w7.heap.size ≤ S
    | 6 => xq 63 = .int .i64 (la.length : Int)
    | 7 => xq 64 = .int .i64 0
    | _ => True) [[57], [58], [59], [60], [61], [62], [63], [64]] [(5, 1)] (fun w' => Below (w7.heap.size + 1) w8 w') (by kernel_rfl)  ?_ ?_ (fun w' w'' hb h => h.trans (hb.mono (Nat.le_trans (Nat.succ_le_of_lt Hdc8.out.lt) h.size))) (Below.refl _ _) ?_ ?_ ?_
   ·intro jq xq xq' wqq h hv
    match jq, h, hv with
    | 0, h, hv => show xq' 57 = .slice a2 len2 cap2; rw [← h 57 (by decide)]; exact hv
    | 1, h, hv => show ∃ b mm, xq' 58 = .pointer (some ⟨b, 0, none⟩) ∧ w7.heap.size < b ∧ Holds wqq b 172 #[.slice a2 len2 cap2, .int .i64 ((0 : Nat) : Int), .int .u32 mm]; rw [← h 58 (by decide)]; exact hv
    | 2, h, hv => show xq' 59 = .pointer (some ⟨w2.heap.size + 1, 2, none⟩); rw [← h 59 (by decide)]; exact hv
    | 3, h, hv => show xq' 60 = .slice H' la.length q'; rw [← h 60 (by decide)]; exact hv
    | 4, h, hv => show xq' 61 = .int .i64 (la.length : Int); rw [← h 61 (by decide)]; exact hv
    | 5, h, hv => show ∃ A c xs S, xq' 62 = .slice A xs.length c ∧ OwnInts wqq S (.slice A xs.length c) xs ∧ Shuffled la.length xs ∧ w7.heap.size ≤ S; rw [← h 62 (by decide)]; exact hv
    | 6, h, hv => show xq' 63 = .int .i64 (la.length : Int); rw [← h 63 (by decide)]; exact hv
    | 7, h, hv => show xq' 64 = .int .i64 0; rw [← h 64 (by decide)]; exact hv
    | _ + 8, _, _ => trivial
   ·intro jq xq wqq w' hb' hv
    match jq, hv with
    | 0, hv => exact hv
    | 1, ⟨b0, b1, h0, h1, h2⟩ => exact ⟨b0, b1, h0, h1, h2.up hb'⟩
    | 2, hv => exact hv
    | 3, hv => exact hv
    | 4, hv => exact hv
    | 5, ⟨b0, b1, b2, b3, h0, h1, h2, h3⟩ => exact ⟨b0, b1, b2, b3, h0, h1.up hb', h2, h3⟩
    | 6, hv => exact hv
    | 7, hv => exact hv
    | _ + 8, _ => trivial
   ·intro jq hj
    match jq, hj with
    | 0, hj => exact absurd hj (by decide)
    | 1, hj => exact absurd hj (by decide)
    | 2, hj => exact absurd hj (by decide)
    | 3, hj => exact absurd hj (by decide)
    | 4, hj => exact absurd hj (by decide)
    | 5, hj => exact absurd hj (by decide)
    | 6, hj => exact absurd hj (by decide)
    | 7, hj => exact absurd hj (by decide)
    | _ + 8, _ => trivial
   ·refine ⟨?_, ?_, ?_, ?_, ?_, ?_, ?_, ?_, trivial⟩
    ·intro xq w9 hb9 hx K hK0
     have hK := fun v w' hb => hK0 v w' (.inl hb)
     clear hx hKc hK0
     simp only [frameOf, fill, setSlot, sg, Nat.reduceBEq, if_true, if_false, Nat.reduceAdd, Nat.reduceEqDiff, HSL.out] at hK ⊢
     go_wp2_with (fail)
     exact hK _ _ (Below.refl _ _) rfl
    ·intro xq w9 hb9 hx K hK0
     have hK := fun v w' hb => hK0 v w' (.inl hb)
     have e57 : xq 57 = .slice a2 len2 cap2 := hx 0 (by rfl) (by rfl)
     clear hx hKc hK0
     simp only [frameOf, fill, setSlot, sg, Nat.reduceBEq, if_true, if_false, Nat.reduceAdd, Nat.reduceEqDiff, HSL.out] at hK ⊢
     simp only [e57] at hK ⊢
     clear e57
     go_wp2_with (go_at_call 63; refine (Fill_any a2 len2 cap2 _ hn2).mono ?_; rintro e' w2_ ⟨mm, rfl, hS_, hb_⟩)
     exact hK _ _ hb_ ⟨_, _, rfl, Nat.lt_of_lt_of_le Hdc8.out.lt hb9.size, hS_⟩
    ·intro xq w9 hb9 hx K hK0
     have hK := fun v w' hb => hK0 v w' (.inl hb)
     clear hx hKc hK0
     simp only [frameOf, fill, setSlot, sg, Nat.reduceBEq, if_true, if_false, Nat.reduceAdd, Nat.reduceEqDiff, HSL.out] at hK ⊢
     go_wp2_with (fail)
     exact hK _ _ (Below.refl _ _) rfl
    ·intro xq w9 hb9 hx K hK0
     have hK := fun v w' hb => hK0 v w' (.inl hb)
     have e59 : xq 59 = .pointer (some ⟨w2.heap.size + 1, 2, none⟩) := hx 2 (by rfl) (by rfl)
     clear hx hKc hK0
     have kcc2 : w9.cell? ⟨w2.heap.size + 1, 2, none⟩ = some (.slice H' la.length q') := (hold_low Hcc8.out hb9 (by omega)).cell 2
     simp only [frameOf, fill, setSlot, sg, Nat.reduceBEq, if_true, if_false, Nat.reduceAdd, Nat.reduceEqDiff, HSL.out] at hK ⊢
     simp only [e59] at hK ⊢
     clear e59
     go_wp2_with (fail)
     exact hK _ _ (Below.refl _ _) rfl
    ·intro xq w9 hb9 hx K hK0
     have hK := fun v w' hb => hK0 v w' (.inl hb)
     have e60 : xq 60 = .slice H' la.length q' := hx 3 (by rfl) (by rfl)
     clear hx hKc hK0
     simp only [frameOf, fill, setSlot, sg, Nat.reduceBEq, if_true, if_false, Nat.reduceAdd, Nat.reduceEqDiff, HSL.out] at hK ⊢
     simp only [e60] at hK ⊢
     clear e60
     go_wp2_with (fail)
     exact hK _ _ (Below.refl _ _) rfl
    ·intro xq w9 hb9 hx K hK0
     have hK := fun v w' hb => hK0 v w' (.inr hb)
     obtain ⟨b58, mm58, e58, f58_0, f58_1⟩ := hx 1 (by rfl) (by rfl)
     have e61 : xq 61 = .int .i64 (la.length : Int) := hx 4 (by rfl) (by rfl)
     clear hx hKc hK0
     simp only [frameOf, fill, setSlot, sg, Nat.reduceBEq, if_true, if_false, Nat.reduceAdd, Nat.reduceEqDiff, HSL.out] at hK ⊢
     simp only [e58, e61] at hK ⊢
     clear e58 e61
     go_wp2_with (go_at_call 75; refine (Shuffle_any b58 a2 len2 cap2 0 la.length mm58 _ f58_1 (fun w' hb => HYO.out.up (HB8.out.trans ((hb9.mono (Nat.le_succ_of_le hs7)).trans (hb.mono (Nat.le_trans hs7 (Nat.le_of_lt f58_0)))))) hn2 (by decide) hla').mono ?_; rintro e' w2_ ⟨v, xs, rfl, hsh, how, hb_⟩; obtain ⟨A, c, rfl, hi⟩ := ints_of_row how)
     refine hK _ _ ⟨(hb9.trans (hb_.mono f58_0)), ?_⟩ ⟨_, _, _, _, rfl, how, hsh, Nat.le_succ_of_le (Nat.le_of_lt f58_0)⟩
     intro jq xq hd hne hv
     match jq, hd, hne, hv with
     | 0, _, _, hv => exact hv
     | 1, hd, _, _ => exact absurd hd (by decide)
     | 2, _, _, hv => exact hv
     | 3, _, _, hv => exact hv
     | 4, _, _, hv => exact hv
     | 5, _, hne, _ => exact absurd rfl hne
     | 6, _, _, hv => exact hv
     | 7, _, _, hv => exact hv
     | _ + 8, _, _, _ => trivial
    ·intro xq w9 hb9 hx K hK0
     have hK := fun v w' hb => hK0 v w' (.inl hb)
     obtain ⟨A62, c62, xs62, S62, e62, f62_0, f62_1, f62_2⟩ := hx 5 (by rfl) (by rfl)
     clear hx hKc hK0
     simp only [frameOf, fill, setSlot, sg, Nat.reduceBEq, if_true, if_false, Nat.reduceAdd, Nat.reduceEqDiff, HSL.out] at hK ⊢
     simp only [e62] at hK ⊢
     clear e62
     go_wp2_with (fail)
     exact hK _ _ (Below.refl _ _) (by rw [f62_1.len])
    ·intro xq w9 hb9 hx K hK0
     have hK := fun v w' hb => hK0 v w' (.inl hb)
     clear hx hKc hK0
     simp only [frameOf, fill, setSlot, sg, Nat.reduceBEq, if_true, if_false, Nat.reduceAdd, Nat.reduceEqDiff, HSL.out] at hK ⊢
     go_wp2_with (fail)
     exact hK _ _ (Below.refl _ _) rfl
   ·intro xq w9 hb9 hx
    have e57 : xq 57 = .slice a2 len2 cap2 := hx 0 (by decide)
    have e59 : xq 59 = .pointer (some ⟨w2.heap.size + 1, 2, none⟩) := hx 2 (by decide)
    have e60 : xq 60 = .slice H' la.length q' := hx 3 (by decide)
    have e61 : xq 61 = .int .i64 (la.length : Int) := hx 4 (by decide)
    obtain ⟨A62, c62, xs62, S62, e62, f62_0, f62_1, f62_2⟩ := hx 5 (by decide)
    have e63 : xq 63 = .int .i64 (la.length : Int) := hx 6 (by decide)
    have e64 : xq 64 = .int .i64 0 := hx 7 (by decide)
    clear hx
    simp only [frameOf, fill, setSlot, sg, Nat.reduceBEq, if_true, if_false, Nat.reduceAdd, Nat.reduceEqDiff, HSL.out]
    simp only [e57, e59, e60, e61, e62, e63, e64]
    clear e57 e59 e60 e61 e62 e63 e64
    refine hKc _ _ ?_
    have HS9 := Lib.hid hb9
    have HB9 : Hid (Below w.heap.size w w9) := Lib.hid (HB8.out.trans (hb9.mono (Nat.le_trans hs7 (Nat.le_succ _))))
    have hs9 := HB9.out.size
    have hst9 := hb9.size
    have HU9 : Hid (Below wr.heap.size wr w9) := Lib.hid (HS7.out.trans ((HS8.out.mono hst7).trans (hb9.mono (Nat.le_trans hst7 (Nat.le_succ _)))))
    have Hdc9 : Hid (Holds w9 (w7.heap.size) 27 #[.int .i64 full, .int .i64 emp, .slice D la.length e]) := Lib.hid (hold_low Hdc8.out hb9 (Nat.lt_succ_self _))
    have HD9 := Lib.hid (hands_low HD8.out hb9 (fun k hk => Nat.lt_succ_of_lt (hD7 k hk)))
    have HX9 := Lib.hid f62_0
    have HSH := Lib.hid f62_1
    have hS9 := f62_2
    clear hb9 f62_0 f62_1 f62_2
    have Hg9 := Lib.hid (Hgr.out.up HU9.out)
    have Hcc9 := Lib.hid (Hccr.out.up HU9.out)
    have HG9 := Lib.hid (HGr.out.up HU9.out)
    have HH9 := Lib.hid (HHr.out.up HU9.out)
    go_wp2_with fail
    go_loopw [64] (fun v64 wz => TwRel w9 wr.heap.size D e la xs62 v64 wz) (fun v64 _ => la.length - (intOf v64).toNat)
    case atStart => exact ⟨0, la, rfl, Nat.zero_le _, Placed.start _ _, HD9.out, World.grownBy.refl _ _⟩
    case round =>
     rename World => wa
     obtain ⟨j, ds, rfl, hjl, hpl, hdo, hgr⟩ := hrel
     have HPL := Lib.hid hpl
     have HDO := Lib.hid hdo
     have HGR := Lib.hid hgr
     have HUa : Hid (Below wr.heap.size wr wa) := Lib.hid (HU9.out.grown hgr HU9.out.size hD0)
     have HBa := Lib.hid (HBr.out.trans (HUa.out.mono hsr))
     have hsa := HBa.out.size
     have hua := HUa.out.size
     have hza := hgr.size
     have Hdca := Lib.hid (Hdc9.out.past hgr (fun k hk => Nat.ne_of_lt (hD7 k hk)))
     have Hga := Lib.hid (Hgr.out.up HUa.out)
     have Hcca := Lib.hid (Hccr.out.up HUa.out)
     have HGa := Lib.hid (HGr.out.up HUa.out)
     have HHa := Lib.hid (HHr.out.up HUa.out)
     clear hpl hdo hgr
     by_cases hlt : j < la.length
     ·as_aux_lemma =>
       have hjl' : (j : Int) < la.length := by omega
       have HXa := Lib.hid (HX9.out.past HGR.out (fun k hk => Nat.lt_of_lt_of_le (hD7 k hk) hS9))
       obtain ⟨y, hy⟩ : ∃ y, la[j]? = some y := ⟨_, List.getElem?_eq_getElem hlt⟩
       obtain ⟨kz, hkz⟩ : ∃ z, xs62[j]? = some z := ⟨_, List.getElem?_eq_getElem (by rw [HSH.out.len]; exact hlt)⟩
       obtain ⟨kn, rfl⟩ : ∃ n : Nat, kz = (n : Int) := ⟨kz.toNat, by have := HSH.out.ran _ (List.mem_of_getElem? hkz); omega⟩
       have hkn : kn < la.length := by have := HSH.out.ran _ (List.mem_of_getElem? hkz); omega
       have hkn' : (kn : Int) < la.length := by omega
       obtain ⟨_, _, e9, hxi⟩ := ints_of_row HXa.out
       cases e9
       obtain ⟨XB, XO, rfl, hxc⟩ := hxi (by have := (List.getElem?_eq_some_iff.1 hkz).1; omega)
       have hxj := hxc j _ hkz
       have hxl := cell_lt hxj
       have hxn := HSH.out.len
       have hjx : (j : Int) < xs62.length := by omega
       obtain ⟨E, oo, eH, hcell⟩ := HHa.out (by omega)
       subst eH
       obtain ⟨ke0, ke1, ke2, ke3, ke4⟩ := hcell j y hy
       have hEl := cell_lt ke0
       have hdl := HPL.out.len
       obtain ⟨gD, eD⟩ := own_some HDO.out (by omega)
       subst eD
       obtain ⟨w12, hst, hown, hg12⟩ := own_store HDO.out (k := kn) (by omega) y
       have HST := Lib.hid hst
       have HON := Lib.hid hown
       have HG12 := Lib.hid hg12
       have HY_ := Lib.hid hy
       have HKZ := Lib.hid hkz
       have HXN := Lib.hid hxn
       have HDL := Lib.hid hdl
       clear hst hown hg12 hy hkz hcell hxc hxi hxn hdl
       go_wp2_with fail
       have hgD0 := hD0 gD rfl
       have hgD7 := hD7 gD rfl
       have hEr : E < wr.heap.size := hands_base HHr.out (by omega)
       rename_i Kc hKc
       have HSL := Lib.hid (show slotsOf [some 69, some 70, some 71, some 72, some 73, some 74, some 75, some 76, some 77, none] = [69, 70, 71, 72, 73, 74, 75, 76, 77] from rfl)
       refine wp_region_partsG (by kernel_rfl) [some 69, some 70, some 71, some 72, some 73, some 74, some 75, some 76, some 77, none] (fun jq xq w' => match jq with
        | 0 => xq 69 = .pointer (some ⟨w7.heap.size, 2, none⟩)
        | 1 => xq 70 = .slice (some ⟨gD, 0, none⟩) la.length e
        | 2 => xq 71 = .int .i64 (kn : Int)
        | 3 => xq 72 = .pointer (some ⟨w2.heap.size + 1, 2, none⟩)
        | 4 => xq 73 = .slice (some ⟨E, oo, none⟩) la.length q'
        | 5 => xq 74 = .int .i64 (j : Int)
        | 6 => xq 75 = .pointer (some ⟨E, oo + j * 5, none⟩)
        | 7 => xq 76 = .agg #[.int .i64 y.spot, .int .i64 y.g0, .int .i64 y.g1, .int .i64 y.g2, .int .i64 y.g3]
        | 8 => xq 77 = .pointer (some ⟨gD, kn * 5, none⟩)
        | 9 => OwnHands w' wr.heap.size (.slice (some ⟨gD, 0, none⟩) la.length e) (ds.set kn y)
        | 10 => OwnHands w' wr.heap.size (.slice (some ⟨gD, 0, none⟩) la.length e) ds
        | _ => True) [[69], [70], [71], [72], [73], [74], [75], [76], [77], [], []] [(9, 10)] (fun w' => wa.grownBy w' (some gD)) (by kernel_rfl)  ?_ ?_ (fun w' w'' hb h => grown_below h hb) (World.grownBy.refl _ _) ?_ ?_ ?_
       ·intro jq xq xq' wqq h hv
        match jq, h, hv with
        | 0, h, hv => show xq' 69 = .pointer (some ⟨w7.heap.size, 2, none⟩); rw [← h 69 (by decide)]; exact hv
        | 1, h, hv => show xq' 70 = .slice (some ⟨gD, 0, none⟩) la.length e; rw [← h 70 (by decide)]; exact hv
        | 2, h, hv => show xq' 71 = .int .i64 (kn : Int); rw [← h 71 (by decide)]; exact hv
        | 3, h, hv => show xq' 72 = .pointer (some ⟨w2.heap.size + 1, 2, none⟩); rw [← h 72 (by decide)]; exact hv
        | 4, h, hv => show xq' 73 = .slice (some ⟨E, oo, none⟩) la.length q'; rw [← h 73 (by decide)]; exact hv
        | 5, h, hv => show xq' 74 = .int .i64 (j : Int); rw [← h 74 (by decide)]; exact hv
        | 6, h, hv => show xq' 75 = .pointer (some ⟨E, oo + j * 5, none⟩); rw [← h 75 (by decide)]; exact hv
        | 7, h, hv => show xq' 76 = .agg #[.int .i64 y.spot, .int .i64 y.g0, .int .i64 y.g1, .int .i64 y.g2, .int .i64 y.g3]; rw [← h 76 (by decide)]; exact hv
        | 8, h, hv => show xq' 77 = .pointer (some ⟨gD, kn * 5, none⟩); rw [← h 77 (by decide)]; exact hv
        | 9, h, hv => exact hv
        | 10, h, hv => exact hv
        | _ + 11, _, _ => trivial
       ·intro jq xq wqq w' hb' hv
        match jq, hv with
        | 0, hv => exact hv
        | 1, hv => exact hv
        | 2, hv => exact hv
        | 3, hv => exact hv
        | 4, hv => exact hv
        | 5, hv => exact hv
        | 6, hv => exact hv
        | 7, hv => exact hv
        | 8, hv => exact hv
        | 9, h0 => exact h0.up hb'
        | 10, h0 => exact h0.up hb'
        | _ + 11, _ => trivial
       ·intro jq hj
        match jq, hj with
        | 0, hj => exact absurd hj (by decide)
        | 1, hj => exact absurd hj (by decide)
        | 2, hj => exact absurd hj (by decide)
        | 3, hj => exact absurd hj (by decide)
        | 4, hj => exact absurd hj (by decide)
        | 5, hj => exact absurd hj (by decide)
        | 6, hj => exact absurd hj (by decide)
        | 7, hj => exact absurd hj (by decide)
        | 8, hj => exact absurd hj (by decide)
        | 9, hj => exact absurd hj (by decide)
        | 10, _ => exact HDO.out
        | _ + 11, _ => trivial
       ·refine ⟨?_, ?_, ?_, ?_, ?_, ?_, ?_, ?_, ?_, ?_, trivial⟩
        ·intro xq w13 hb13 hx K hK0
         have hK := fun v w' hb => hK0 v w' (.inl hb)
         clear hx hKc hK0
         simp only [frameOf, fill, setSlot, sg, Nat.reduceBEq, if_true, if_false, Nat.reduceAdd, Nat.reduceEqDiff, HSL.out] at hK ⊢
         go_wp2_with (fail)
         exact hK _ _ (Below.refl _ _) rfl
        ·intro xq w13 hb13 hx K hK0
         have hK := fun v w' hb => hK0 v w' (.inl hb)
         have e69 : xq 69 = .pointer (some ⟨w7.heap.size, 2, none⟩) := hx 0 (by rfl) (by rfl)
         clear hx hKc hK0
         have kdc2 : w13.cell? ⟨w7.heap.size, 2, none⟩ = some (.slice (some ⟨gD, 0, none⟩) la.length e) := ((Hdca.out.past hb13 (fun k hk => by cases hk; omega))).cell 2
         simp only [frameOf, fill, setSlot, sg, Nat.reduceBEq, if_true, if_false, Nat.reduceAdd, Nat.reduceEqDiff, HSL.out] at hK ⊢
         simp only [e69] at hK ⊢
         clear e69
         go_wp2_with (fail)
         exact hK _ _ (Below.refl _ _) rfl
        ·intro xq w13 hb13 hx K hK0
         have hK := fun v w' hb => hK0 v w' (.inl hb)
         clear hx hKc hK0
         simp only [frameOf, fill, setSlot, sg, Nat.reduceBEq, if_true, if_false, Nat.reduceAdd, Nat.reduceEqDiff, HSL.out] at hK ⊢
         go_wp2_with (fail)
         exact hK _ _ (Below.refl _ _) rfl
        ·intro xq w13 hb13 hx K hK0
         have hK := fun v w' hb => hK0 v w' (.inl hb)
         clear hx hKc hK0
         simp only [frameOf, fill, setSlot, sg, Nat.reduceBEq, if_true, if_false, Nat.reduceAdd, Nat.reduceEqDiff, HSL.out] at hK ⊢
         go_wp2_with (fail)
         exact hK _ _ (Below.refl _ _) rfl
        ·intro xq w13 hb13 hx K hK0
         have hK := fun v w' hb => hK0 v w' (.inl hb)
         have e72 : xq 72 = .pointer (some ⟨w2.heap.size + 1, 2, none⟩) := hx 3 (by rfl) (by rfl)
         clear hx hKc hK0
         have kcc2 : w13.cell? ⟨w2.heap.size + 1, 2, none⟩ = some (.slice (some ⟨E, oo, none⟩) la.length q') := ((Hcca.out.past hb13 (fun k hk => by cases hk; omega))).cell 2
         simp only [frameOf, fill, setSlot, sg, Nat.reduceBEq, if_true, if_false, Nat.reduceAdd, Nat.reduceEqDiff, HSL.out] at hK ⊢
         simp only [e72] at hK ⊢
         clear e72
         go_wp2_with (fail)
         exact hK _ _ (Below.refl _ _) rfl
        ·intro xq w13 hb13 hx K hK0
         have hK := fun v w' hb => hK0 v w' (.inl hb)
         clear hx hKc hK0
         simp only [frameOf, fill, setSlot, sg, Nat.reduceBEq, if_true, if_false, Nat.reduceAdd, Nat.reduceEqDiff, HSL.out] at hK ⊢
         go_wp2_with (fail)
         exact hK _ _ (Below.refl _ _) rfl
        ·intro xq w13 hb13 hx K hK0
         have hK := fun v w' hb => hK0 v w' (.inl hb)
         have e73 : xq 73 = .slice (some ⟨E, oo, none⟩) la.length q' := hx 4 (by rfl) (by rfl)
         have e74 : xq 74 = .int .i64 (j : Int) := hx 5 (by rfl) (by rfl)
         clear hx hKc hK0
         have hgE : E ≠ gD := by omega
         simp only [frameOf, fill, setSlot, sg, Nat.reduceBEq, if_true, if_false, Nat.reduceAdd, Nat.reduceEqDiff, HSL.out] at hK ⊢
         simp only [e73, e74] at hK ⊢
         clear e73 e74
         go_wp2_with (fail)
         exact hK _ _ (Below.refl _ _) rfl
        ·intro xq w13 hb13 hx K hK0
         have hK := fun v w' hb => hK0 v w' (.inl hb)
         have e75 : xq 75 = .pointer (some ⟨E, oo + j * 5, none⟩) := hx 6 (by rfl) (by rfl)
         clear hx hKc hK0
         have hgE : E ≠ gD := by omega
         have ke0' : w13.cell? ⟨E, oo + j * 5, none⟩ = some (.int .i64 y.spot) := (cell_past ke0 hb13 (by omega))
         have ke1' : w13.cell? ⟨E, oo + j * 5 + 1, none⟩ = some (.int .i64 y.g0) := (cell_past ke1 hb13 (by omega))
         have ke2' : w13.cell? ⟨E, oo + j * 5 + 2, none⟩ = some (.int .i64 y.g1) := (cell_past ke2 hb13 (by omega))
         have ke3' : w13.cell? ⟨E, oo + j * 5 + 3, none⟩ = some (.int .i64 y.g2) := (cell_past ke3 hb13 (by omega))
         have ke4' : w13.cell? ⟨E, oo + j * 5 + 4, none⟩ = some (.int .i64 y.g3) := (cell_past ke4 hb13 (by omega))
         clear ke0 ke1 ke2 ke3 ke4
         simp only [frameOf, fill, setSlot, sg, Nat.reduceBEq, if_true, if_false, Nat.reduceAdd, Nat.reduceEqDiff, HSL.out] at hK ⊢
         simp only [e75] at hK ⊢
         clear e75
         go_wp2_with (fail)
         exact hK _ _ (Below.refl _ _) rfl
        ·intro xq w13 hb13 hx K hK0
         have hK := fun v w' hb => hK0 v w' (.inl hb)
         have e70 : xq 70 = .slice (some ⟨gD, 0, none⟩) la.length e := hx 1 (by rfl) (by rfl)
         have e71 : xq 71 = .int .i64 (kn : Int) := hx 2 (by rfl) (by rfl)
         clear hx hKc hK0
         simp only [frameOf, fill, setSlot, sg, Nat.reduceBEq, if_true, if_false, Nat.reduceAdd, Nat.reduceEqDiff, HSL.out] at hK ⊢
         simp only [e70, e71] at hK ⊢
         clear e70 e71
         go_wp2_with (fail)
         exact hK _ _ (Below.refl _ _) rfl
        ·intro xq w13 hb13 hx K hK0
         have hK := fun v w' hb => hK0 v w' (.inr hb)
         have e76 : xq 76 = .agg #[.int .i64 y.spot, .int .i64 y.g0, .int .i64 y.g1, .int .i64 y.g2, .int .i64 y.g3] := hx 7 (by rfl) (by rfl)
         have e77 : xq 77 = .pointer (some ⟨gD, kn * 5, none⟩) := hx 8 (by rfl) (by rfl)
         have fio_0 : OwnHands w13 wr.heap.size (.slice (some ⟨gD, 0, none⟩) la.length e) ds := hx 10 (by rfl) (by rfl)
         clear hx hKc hK0
         obtain ⟨w13, hst, hon, hgr_⟩ := own_store fio_0 (k := kn) (by have := HDL.out; omega) y
         simp only [frameOf, fill, setSlot, sg, Nat.reduceBEq, if_true, if_false, Nat.reduceAdd, Nat.reduceEqDiff, HSL.out] at hK ⊢
         have E76 := Lib.hid e76
         have E77 := Lib.hid e77
         simp only [e76, e77] at hK ⊢
         clear e76 e77
         go_wp2_with ((refine wpList_store_run _ rfl 30 _ _ rfl ⟨gD, kn * 5, none⟩ rfl rfl hst ?_))
         refine hK undef _ ⟨(grown_trans hb13 hgr_), ?_⟩ hon
         intro jq xq hd hne hv
         match jq, hd, hne, hv with
         | 0, _, _, hv => exact hv
         | 1, _, _, hv => exact hv
         | 2, _, _, hv => exact hv
         | 3, _, _, hv => exact hv
         | 4, _, _, hv => exact hv
         | 5, _, _, hv => exact hv
         | 6, _, _, hv => exact hv
         | 7, _, _, hv => exact hv
         | 8, _, _, hv => exact hv
         | 9, _, hne, _ => exact absurd rfl hne
         | 10, hd, _, _ => exact absurd hd (by decide)
         | _ + 11, _, _, _ => trivial
       ·intro xq w13 hb13 hx
        have e69 : xq 69 = .pointer (some ⟨w7.heap.size, 2, none⟩) := hx 0 (by decide)
        have e70 : xq 70 = .slice (some ⟨gD, 0, none⟩) la.length e := hx 1 (by decide)
        have e71 : xq 71 = .int .i64 (kn : Int) := hx 2 (by decide)
        have e72 : xq 72 = .pointer (some ⟨w2.heap.size + 1, 2, none⟩) := hx 3 (by decide)
        have e73 : xq 73 = .slice (some ⟨E, oo, none⟩) la.length q' := hx 4 (by decide)
        have e74 : xq 74 = .int .i64 (j : Int) := hx 5 (by decide)
        have e75 : xq 75 = .pointer (some ⟨E, oo + j * 5, none⟩) := hx 6 (by decide)
        have e76 : xq 76 = .agg #[.int .i64 y.spot, .int .i64 y.g0, .int .i64 y.g1, .int .i64 y.g2, .int .i64 y.g3] := hx 7 (by decide)
        have e77 : xq 77 = .pointer (some ⟨gD, kn * 5, none⟩) := hx 8 (by decide)
        have fn9_0 : OwnHands w13 wr.heap.size (.slice (some ⟨gD, 0, none⟩) la.length e) (ds.set kn y) := hx 9 (by decide)
        clear hx
        simp only [frameOf, fill, setSlot, sg, Nat.reduceBEq, if_true, if_false, Nat.reduceAdd, Nat.reduceEqDiff, HSL.out]
        simp only [e69, e70, e71, e72, e73, e74, e75, e76, e77]
        clear e69 e70 e71 e72 e73 e74 e75 e76 e77
        refine hKc _ _ ?_
        have HG13 := Lib.hid hb13
        have HON := Lib.hid fn9_0
        clear hb13 fn9_0
        go_wp2_with fail
        go_roundw
        case rel => exact ⟨j + 1, ds.set kn y, by go_num, by omega, HPL.out.next HSH.out HKZ.out HY_.out, HON.out, grown_trans HGR.out HG13.out⟩
        case measure => first | (simp [intOf]; done) | (simp [intOf]; omega)
     ·have hj : j = la.length := by omega
      subst hj
      have hm := HPL.out.done HSH.out
      have hdl := HPL.out.len
      have HM := Lib.hid hm
      have HDL := Lib.hid hdl
      clear hm hdl
      by_cases hn0 : 0 < la.length
      ·have hn0' : (0 : Int) < la.length := by omega
       obtain ⟨E, oo, eH, hcell⟩ := HHa.out (by omega)
       subst eH
       obtain ⟨gD, eD⟩ := own_some HDO.out (by have := HDL.out; omega)
       subst eD
       obtain ⟨jz, hjz⟩ : ∃ z, z = a3 % (la.length : Int) := ⟨_, rfl⟩
       have hjz0 : 0 ≤ jz ∧ jz < la.length := by rw [hjz]; exact ⟨Int.emod_nonneg _ (by omega), Int.emod_lt_of_pos _ (by omega)⟩
       obtain ⟨jn, rfl⟩ : ∃ n : Nat, jz = (n : Int) := ⟨jz.toNat, by omega⟩
       have hjn : jn < la.length := by omega
       have hjn' : (jn : Int) < la.length := by omega
       have HJZ := Lib.hid hjz
       obtain ⟨y, hy⟩ : ∃ y, la[jn]? = some y := ⟨_, List.getElem?_eq_getElem hjn⟩
       obtain ⟨ke0, ke1, ke2, ke3, ke4⟩ := hcell jn y hy
       have hEr : E < wr.heap.size := hands_base HHr.out (by omega)
       have hgD0 := hD0 gD rfl
       have HY_ := Lib.hid hy
       clear hjz hjz0 hy hcell hD0 hD7
       have ta_cc : w2.heap.size + 1 < wa.heap.size := Hcca.out.lt
       have ta_dc : w7.heap.size < wa.heap.size := Hdca.out.lt
       have kcc2 : wa.cell? ⟨w2.heap.size + 1, 2, none⟩ = some (.slice (some ⟨E, oo, none⟩) la.length q') := Hcca.out.cell 2
       go_wp2_with fail
       clear kcc2
       rename_i Kc hKc
       have HSL := Lib.hid (show slotsOf [some 84, some 85, some 86, some 87, some 88, some 89, some 90, some 91, some 92, some 93, some 94, some 95, some 96, none] = [84, 85, 86, 87, 88, 89, 90, 91, 92, 93, 94, 95, 96] from rfl)
       refine wp_region_partsG (by kernel_rfl) [some 84, some 85, some 86, some 87, some 88, some 89, some 90, some 91, some 92, some 93, some 94, some 95, some 96, none] (fun jq xq w' => match jq with
        | 0 => xq 84 = .pointer (some ⟨w7.heap.size, 2, none⟩)
        | 1 => xq 85 = .slice (some ⟨gD, 0, none⟩) la.length e
        | 2 => xq 86 = .pointer (some ⟨w2.heap.size + 1, 2, none⟩)
        | 3 => xq 87 = .slice (some ⟨E, oo, none⟩) la.length q'
        | 4 => xq 88 = .int .u8 a3
        | 5 => xq 89 = .int .i64 a3
        | 6 => xq 90 = .int .i64 (la.length : Int)
        | 7 => xq 91 = .int .i64 (jn : Int)
        | 8 => xq 92 = .pointer (some ⟨E, oo + jn * 5, none⟩)
        | 9 => xq 93 = .agg #[.int .i64 y.spot, .int .i64 y.g0, .int .i64 y.g1, .int .i64 y.g2, .int .i64 y.g3]
        | 10 => ∃ b, xq 94 = .slice (some ⟨b, 0, none⟩) 1 1 ∧ Holds w' b 30 y.cells.toArray
        | 11 => ∃ A2 d2, xq 95 = .slice A2 (ds.length + 1) d2 ∧ OwnHands w' wr.heap.size (.slice A2 (ds.length + 1) d2) (ds ++ [y])
        | 12 => xq 96 = .pointer (some ⟨w7.heap.size, 2, none⟩)
        | 13 => ∃ A2 d2, Holds w' (w7.heap.size) 27 #[.int .i64 full, .int .i64 emp, .slice A2 (ds.length + 1) d2] ∧ OwnHands w' wr.heap.size (.slice A2 (ds.length + 1) d2) (ds ++ [y])
        | 14 => Holds w' (w7.heap.size) 27 #[.int .i64 full, .int .i64 emp, .slice (some ⟨gD, 0, none⟩) la.length e]
        | 15 => OwnHands w' wr.heap.size (.slice (some ⟨gD, 0, none⟩) la.length e) ds
        | _ => True) [[84], [85], [86], [87], [88], [89], [90], [91], [92], [93], [94], [95], [96], [], [], []] [(11, 10), (13, 10), (11, 15), (13, 14)] (fun w' => Below wr.heap.size wa w') (by kernel_rfl)  ?_ ?_ (fun w' w'' hb h => h.trans (hb.mono (Nat.le_trans hua h.size))) (Below.refl _ _) ?_ ?_ ?_
       ·intro jq xq xq' wqq h hv
        match jq, h, hv with
        | 0, h, hv => show xq' 84 = .pointer (some ⟨w7.heap.size, 2, none⟩); rw [← h 84 (by decide)]; exact hv
        | 1, h, hv => show xq' 85 = .slice (some ⟨gD, 0, none⟩) la.length e; rw [← h 85 (by decide)]; exact hv
        | 2, h, hv => show xq' 86 = .pointer (some ⟨w2.heap.size + 1, 2, none⟩); rw [← h 86 (by decide)]; exact hv
        | 3, h, hv => show xq' 87 = .slice (some ⟨E, oo, none⟩) la.length q'; rw [← h 87 (by decide)]; exact hv
        | 4, h, hv => show xq' 88 = .int .u8 a3; rw [← h 88 (by decide)]; exact hv
        | 5, h, hv => show xq' 89 = .int .i64 a3; rw [← h 89 (by decide)]; exact hv
        | 6, h, hv => show xq' 90 = .int .i64 (la.length : Int); rw [← h 90 (by decide)]; exact hv
        | 7, h, hv => show xq' 91 = .int .i64 (jn : Int); rw [← h 91 (by decide)]; exact hv
        | 8, h, hv => show xq' 92 = .pointer (some ⟨E, oo + jn * 5, none⟩); rw [← h 92 (by decide)]; exact hv
        | 9, h, hv => show xq' 93 = .agg #[.int .i64 y.spot, .int .i64 y.g0, .int .i64 y.g1, .int .i64 y.g2, .int .i64 y.g3]; rw [← h 93 (by decide)]; exact hv
        | 10, h, hv => show ∃ b, xq' 94 = .slice (some ⟨b, 0, none⟩) 1 1 ∧ Holds wqq b 30 y.cells.toArray; rw [← h 94 (by decide)]; exact hv
        | 11, h, hv => show ∃ A2 d2, xq' 95 = .slice A2 (ds.length + 1) d2 ∧ OwnHands wqq wr.heap.size (.slice A2 (ds.length + 1) d2) (ds ++ [y]); rw [← h 95 (by decide)]; exact hv
        | 12, h, hv => show xq' 96 = .pointer (some ⟨w7.heap.size, 2, none⟩); rw [← h 96 (by decide)]; exact hv
        | 13, h, hv => exact hv
        | 14, h, hv => exact hv
        | 15, h, hv => exact hv
        | _ + 16, _, _ => trivial
       ·intro jq xq wqq w' hb' hv
        match jq, hv with
        | 0, hv => exact hv
        | 1, hv => exact hv
        | 2, hv => exact hv
        | 3, hv => exact hv
        | 4, hv => exact hv
        | 5, hv => exact hv
        | 6, hv => exact hv
        | 7, hv => exact hv
        | 8, hv => exact hv
        | 9, hv => exact hv
        | 10, ⟨b0, h0, h1⟩ => exact ⟨b0, h0, h1.up hb'⟩
        | 11, ⟨b0, b1, h0, h1⟩ => exact ⟨b0, b1, h0, h1.up hb'⟩
        | 12, hv => exact hv
        | 13, ⟨b0, b1, h0, h1⟩ => exact ⟨b0, b1, h0.up hb', h1.up hb'⟩
        | 14, h0 => exact h0.up hb'
        | 15, h0 => exact h0.up hb'
        | _ + 16, _ => trivial
       ·intro jq hj
        match jq, hj with
        | 0, hj => exact absurd hj (by decide)
        | 1, hj => exact absurd hj (by decide)
        | 2, hj => exact absurd hj (by decide)
        | 3, hj => exact absurd hj (by decide)
        | 4, hj => exact absurd hj (by decide)
        | 5, hj => exact absurd hj (by decide)
        | 6, hj => exact absurd hj (by decide)
        | 7, hj => exact absurd hj (by decide)
        | 8, hj => exact absurd hj (by decide)
        | 9, hj => exact absurd hj (by decide)
        | 10, hj => exact absurd hj (by decide)
        | 11, hj => exact absurd hj (by decide)
        | 12, hj => exact absurd hj (by decide)
        | 13, hj => exact absurd hj (by decide)
        | 14, _ => exact Hdca.out
        | 15, _ => exact HDO.out
        | _ + 16, _ => trivial
       ·refine ⟨?_, ?_, ?_, ?_, ?_, ?_, ?_, ?_, ?_, ?_, ?_, ?_, ?_, ?_, trivial⟩
        ·intro xq w16 hb16 hx K hK0
         have hK := fun v w' hb => hK0 v w' (.inl hb)
         clear hx hKc hK0
         have hsz1 := hb16.size
         simp only [frameOf, fill, setSlot, sg, Nat.reduceBEq, if_true, if_false, Nat.reduceAdd, Nat.reduceEqDiff, HSL.out] at hK ⊢
         go_wp2_with (fail)
         exact hK _ _ (Below.refl _ _) rfl
        ·intro xq w16 hb16 hx K hK0
         have hK := fun v w' hb => hK0 v w' (.inl hb)
         have e84 : xq 84 = .pointer (some ⟨w7.heap.size, 2, none⟩) := hx 0 (by rfl) (by rfl)
         have fid_0 : Holds w16 (w7.heap.size) 27 #[.int .i64 full, .int .i64 emp, .slice (some ⟨gD, 0, none⟩) la.length e] := hx 14 (by rfl) (by rfl)
         clear hx hKc hK0
         have hsz1 := hb16.size
         obtain ⟨kdc0, kdc1, kdc2⟩ := fid_0.c3
         simp only [frameOf, fill, setSlot, sg, Nat.reduceBEq, if_true, if_false, Nat.reduceAdd, Nat.reduceEqDiff, HSL.out] at hK ⊢
         simp only [e84] at hK ⊢
         clear e84
         go_wp2_with (fail)
         exact hK _ _ (Below.refl _ _) rfl
        ·intro xq w16 hb16 hx K hK0
         have hK := fun v w' hb => hK0 v w' (.inl hb)
         clear hx hKc hK0
         have hsz1 := hb16.size
         simp only [frameOf, fill, setSlot, sg, Nat.reduceBEq, if_true, if_false, Nat.reduceAdd, Nat.reduceEqDiff, HSL.out] at hK ⊢
         go_wp2_with (fail)
         exact hK _ _ (Below.refl _ _) rfl
        ·intro xq w16 hb16 hx K hK0
         have hK := fun v w' hb => hK0 v w' (.inl hb)
         have e86 : xq 86 = .pointer (some ⟨w2.heap.size + 1, 2, none⟩) := hx 2 (by rfl) (by rfl)
         clear hx hKc hK0
         have hsz1 := hb16.size
         have kcc2 : w16.cell? ⟨w2.heap.size + 1, 2, none⟩ = some (.slice (some ⟨E, oo, none⟩) la.length q') := (Holds.low Hcca.out hb16 (by omega)).cell 2
         simp only [frameOf, fill, setSlot, sg, Nat.reduceBEq, if_true, if_false, Nat.reduceAdd, Nat.reduceEqDiff, HSL.out] at hK ⊢
         simp only [e86] at hK ⊢
         clear e86
         go_wp2_with (fail)
         exact hK _ _ (Below.refl _ _) rfl
        ·intro xq w16 hb16 hx K hK0
         have hK := fun v w' hb => hK0 v w' (.inl hb)
         clear hx hKc hK0
         have hsz1 := hb16.size
         simp only [frameOf, fill, setSlot, sg, Nat.reduceBEq, if_true, if_false, Nat.reduceAdd, Nat.reduceEqDiff, HSL.out] at hK ⊢
         go_wp2_with (fail)
         exact hK _ _ (Below.refl _ _) rfl
        ·intro xq w16 hb16 hx K hK0
         have hK := fun v w' hb => hK0 v w' (.inl hb)
         have e88 : xq 88 = .int .u8 a3 := hx 4 (by rfl) (by rfl)
         clear hx hKc hK0
         have hsz1 := hb16.size
         simp only [frameOf, fill, setSlot, sg, Nat.reduceBEq, if_true, if_false, Nat.reduceAdd, Nat.reduceEqDiff, HSL.out] at hK ⊢
         simp only [e88] at hK ⊢
         clear e88
         go_wp2_with (fail)
         exact hK _ _ (Below.refl _ _) rfl
        ·intro xq w16 hb16 hx K hK0
         have hK := fun v w' hb => hK0 v w' (.inl hb)
         clear hx hKc hK0
         have hsz1 := hb16.size
         simp only [frameOf, fill, setSlot, sg, Nat.reduceBEq, if_true, if_false, Nat.reduceAdd, Nat.reduceEqDiff, HSL.out] at hK ⊢
         go_wp2_with (fail)
         exact hK _ _ (Below.refl _ _) rfl
        ·intro xq w16 hb16 hx K hK0
         have hK := fun v w' hb => hK0 v w' (.inl hb)
         have e89 : xq 89 = .int .i64 a3 := hx 5 (by rfl) (by rfl)
         have e90 : xq 90 = .int .i64 (la.length : Int) := hx 6 (by rfl) (by rfl)
         clear hx hKc hK0
         have hsz1 := hb16.size
         simp only [frameOf, fill, setSlot, sg, Nat.reduceBEq, if_true, if_false, Nat.reduceAdd, Nat.reduceEqDiff, HSL.out] at hK ⊢
         simp only [e89, e90] at hK ⊢
         clear e89 e90
         go_wp2_with (fail)
         exact hK _ _ (Below.refl _ _) (by rw [HJZ.out])
        ·intro xq w16 hb16 hx K hK0
         have hK := fun v w' hb => hK0 v w' (.inl hb)
         have e87 : xq 87 = .slice (some ⟨E, oo, none⟩) la.length q' := hx 3 (by rfl) (by rfl)
         have e91 : xq 91 = .int .i64 (jn : Int) := hx 7 (by rfl) (by rfl)
         clear hx hKc hK0
         have hsz1 := hb16.size
         simp only [frameOf, fill, setSlot, sg, Nat.reduceBEq, if_true, if_false, Nat.reduceAdd, Nat.reduceEqDiff, HSL.out] at hK ⊢
         simp only [e87, e91] at hK ⊢
         clear e87 e91
         go_wp2_with (fail)
         exact hK _ _ (Below.refl _ _) rfl
        ·intro xq w16 hb16 hx K hK0
         have hK := fun v w' hb => hK0 v w' (.inl hb)
         have e92 : xq 92 = .pointer (some ⟨E, oo + jn * 5, none⟩) := hx 8 (by rfl) (by rfl)
         clear hx hKc hK0
         have hsz1 := hb16.size
         have ke0' : w16.cell? ⟨E, oo + jn * 5, none⟩ = some (.int .i64 y.spot) := (hb16.cell (p := ⟨E, oo + jn * 5, none⟩) hEr).trans ke0
         have ke1' : w16.cell? ⟨E, oo + jn * 5 + 1, none⟩ = some (.int .i64 y.g0) := (hb16.cell (p := ⟨E, oo + jn * 5 + 1, none⟩) hEr).trans ke1
         have ke2' : w16.cell? ⟨E, oo + jn * 5 + 2, none⟩ = some (.int .i64 y.g1) := (hb16.cell (p := ⟨E, oo + jn * 5 + 2, none⟩) hEr).trans ke2
         have ke3' : w16.cell? ⟨E, oo + jn * 5 + 3, none⟩ = some (.int .i64 y.g2) := (hb16.cell (p := ⟨E, oo + jn * 5 + 3, none⟩) hEr).trans ke3
         have ke4' : w16.cell? ⟨E, oo + jn * 5 + 4, none⟩ = some (.int .i64 y.g3) := (hb16.cell (p := ⟨E, oo + jn * 5 + 4, none⟩) hEr).trans ke4
         clear ke0 ke1 ke2 ke3 ke4
         simp only [frameOf, fill, setSlot, sg, Nat.reduceBEq, if_true, if_false, Nat.reduceAdd, Nat.reduceEqDiff, HSL.out] at hK ⊢
         simp only [e92] at hK ⊢
         clear e92
         go_wp2_with (fail)
         exact hK _ _ (Below.refl _ _) rfl
        ·intro xq w16 hb16 hx K hK0
         have hK := fun v w' hb => hK0 v w' (.inl hb)
         have e93 : xq 93 = .agg #[.int .i64 y.spot, .int .i64 y.g0, .int .i64 y.g1, .int .i64 y.g2, .int .i64 y.g3] := hx 9 (by rfl) (by rfl)
         clear hx hKc hK0
         have hsz1 := hb16.size
         simp only [frameOf, fill, setSlot, sg, Nat.reduceBEq, if_true, if_false, Nat.reduceAdd, Nat.reduceEqDiff, HSL.out] at hK ⊢
         simp only [e93] at hK ⊢
         clear e93
         go_wp2_with (fail)
         exact hK _ _ ((Below.refl _ _).alloc (Nat.le_refl _) _) ⟨_, rfl, Holds.new _ _ _⟩
        ·intro xq w16 hb16 hx K hK0
         have hK := fun v w' hb => hK0 v w' (.inr hb)
         have e85 : xq 85 = .slice (some ⟨gD, 0, none⟩) la.length e := hx 1 (by rfl) (by rfl)
         obtain ⟨b94, e94, f94_0⟩ := hx 10 (by rfl) (by rfl)
         have fio_0 : OwnHands w16 wr.heap.size (.slice (some ⟨gD, 0, none⟩) la.length e) ds := hx 15 (by rfl) (by rfl)
         have fid_0 : Holds w16 (w7.heap.size) 27 #[.int .i64 full, .int .i64 emp, .slice (some ⟨gD, 0, none⟩) la.length e] := hx 14 (by rfl) (by rfl)
         clear hx hKc hK0
         have hsz1 := hb16.size
         have hdl5 : ds.length ≤ 5 := by rw [HDL.out]; omega
         have HO1 : Hid (w16.ownsRow wr.heap.size 30 5 (.slice (some ⟨gD, 0, none⟩) la.length e) ds.length (ds.flatMap Hf.cells)) := Lib.hid fio_0
         simp only [frameOf, fill, setSlot, sg, Nat.reduceBEq, if_true, if_false, Nat.reduceAdd, Nat.reduceEqDiff, HSL.out] at hK ⊢
         simp only [e85, e94] at hK ⊢
         clear e85 e94
         go_wp2_with (at_builtin; (refine wpList_append_own _ rfl _ _ 25 rfl wr.heap.size 30 ti _ 5 40 und_hands hti hti0 hti1 hti2 rfl (by decide) _ _ _ rfl HO1.out ⟨b94, 0, none⟩ 1 1 y.cells rfl rfl (holds_news f94_0) (hand_one _) (by unfold maxLen; omega) (by omega) (by omega) ?_); intro v5 w5_ hown5 hgrow5 _; obtain ⟨A5, c5, rfl, _⟩ := row5_val hown5; have ho5 := OwnHands.snoc (h := y) hown5; have HO5 := Lib.hid ho5; have HG5 := Lib.hid hgrow5; clear hown5 hgrow5 ho5)
         refine hK _ _ ⟨(hb16.grown HG5.out (by omega) (fun k hk => row5_block HO1.out k hk)), ?_⟩ ⟨_, _, rfl, HO5.out⟩
         intro jq xq hd hne hv
         match jq, hd, hne, hv with
         | 0, _, _, hv => exact hv
         | 1, _, _, hv => exact hv
         | 2, _, _, hv => exact hv
         | 3, _, _, hv => exact hv
         | 4, _, _, hv => exact hv
         | 5, _, _, hv => exact hv
         | 6, _, _, hv => exact hv
         | 7, _, _, hv => exact hv
         | 8, _, _, hv => exact hv
         | 9, _, _, hv => exact hv
         | 10, hd, _, _ => exact absurd hd (by decide)
         | 11, _, hne, _ => exact absurd rfl hne
         | 12, _, _, hv => exact hv
         | 13, _, _, hv => obtain ⟨_, _, h9, _⟩ := hv; exact (row_over2 h9 fid_0 HO1.out rfl).elim
         | 14, _, _, hv => exact Holds.row_turned hv HO1.out (by decide) HG5.out
         | 15, hd, _, _ => exact absurd hd (by decide)
         | _ + 16, _, _, _ => trivial
        ·intro xq w16 hb16 hx K hK0
         have hK := fun v w' hb => hK0 v w' (.inl hb)
         clear hx hKc hK0
         have hsz1 := hb16.size
         simp only [frameOf, fill, setSlot, sg, Nat.reduceBEq, if_true, if_false, Nat.reduceAdd, Nat.reduceEqDiff, HSL.out] at hK ⊢
         go_wp2_with (fail)
         exact hK _ _ (Below.refl _ _) rfl
        ·intro xq w16 hb16 hx K hK0
         have hK := fun v w' hb => hK0 v w' (.inr hb)
         obtain ⟨A295, d295, e95, f95_0⟩ := hx 11 (by rfl) (by rfl)
         have e96 : xq 96 = .pointer (some ⟨w7.heap.size, 2, none⟩) := hx 12 (by rfl) (by rfl)
         have fid_0 : Holds w16 (w7.heap.size) 27 #[.int .i64 full, .int .i64 emp, .slice (some ⟨gD, 0, none⟩) la.length e] := hx 14 (by rfl) (by rfl)
         clear hx hKc hK0
         have hsz1 := hb16.size
         obtain ⟨kdc0, kdc1, kdc2⟩ := fid_0.c3
         obtain ⟨zdc0, zdc1, zdc2⟩ := fid_0.f3
         simp only [frameOf, fill, setSlot, sg, Nat.reduceBEq, if_true, if_false, Nat.reduceAdd, Nat.reduceEqDiff, HSL.out] at hK ⊢
         have E95 := Lib.hid e95
         have E96 := Lib.hid e96
         simp only [e95, e96] at hK ⊢
         clear e95 e96
         go_wp2_with (fail)
         refine hK undef _ ⟨(hb16.setCell (p := ⟨w7.heap.size, 2, none⟩) hst7 _), ?_⟩ ⟨A295, d295, (by have h := fid_0; exact zp4), row_other_block f95_0 fid_0 (by decide) (grown_set w16 ⟨w7.heap.size, 2, none⟩ _)⟩
         intro jq xq hd hne hv
         match jq, hd, hne, hv with
         | 0, _, _, hv => exact hv
         | 1, _, _, hv => exact hv
         | 2, _, _, hv => exact hv
         | 3, _, _, hv => exact hv
         | 4, _, _, hv => exact hv
         | 5, _, _, hv => exact hv
         | 6, _, _, hv => exact hv
         | 7, _, _, hv => exact hv
         | 8, _, _, hv => exact hv
         | 9, _, _, hv => exact hv
         | 10, hd, _, _ => exact absurd hd (by decide)
         | 11, _, _, hv => obtain ⟨a1_, d1, e1, h1⟩ := hv; exact ⟨a1_, d1, e1, row_other_block h1 fid_0 (by decide) (grown_set w16 ⟨w7.heap.size, 2, none⟩ _)⟩
         | 12, _, _, hv => exact hv
         | 13, _, hne, _ => exact absurd rfl hne
         | 14, hd, _, _ => exact absurd hd (by decide)
         | 15, _, _, hv => exact row_other_block hv fid_0 (by decide) (grown_set w16 ⟨w7.heap.size, 2, none⟩ _)
         | _ + 16, _, _, _ => trivial
       ·intro xq w16 hb16 hx
        have e84 : xq 84 = .pointer (some ⟨w7.heap.size, 2, none⟩) := hx 0 (by decide)
        have e85 : xq 85 = .slice (some ⟨gD, 0, none⟩) la.length e := hx 1 (by decide)
        have e86 : xq 86 = .pointer (some ⟨w2.heap.size + 1, 2, none⟩) := hx 2 (by decide)
        have e87 : xq 87 = .slice (some ⟨E, oo, none⟩) la.length q' := hx 3 (by decide)
        have e88 : xq 88 = .int .u8 a3 := hx 4 (by decide)
        have e89 : xq 89 = .int .i64 a3 := hx 5 (by decide)
        have e90 : xq 90 = .int .i64 (la.length : Int) := hx 6 (by decide)
        have e91 : xq 91 = .int .i64 (jn : Int) := hx 7 (by decide)
        have e92 : xq 92 = .pointer (some ⟨E, oo + jn * 5, none⟩) := hx 8 (by decide)
        have e93 : xq 93 = .agg #[.int .i64 y.spot, .int .i64 y.g0, .int .i64 y.g1, .int .i64 y.g2, .int .i64 y.g3] := hx 9 (by decide)
        obtain ⟨A295, d295, e95, f95_0⟩ := hx 11 (by decide)
        have e96 : xq 96 = .pointer (some ⟨w7.heap.size, 2, none⟩) := hx 12 (by decide)
        obtain ⟨A2n13, d2n13, fn13_0, fn13_1⟩ := hx 13 (by decide)
        clear hx
        have hsz1 := hb16.size
        simp only [frameOf, fill, setSlot, sg, Nat.reduceBEq, if_true, if_false, Nat.reduceAdd, Nat.reduceEqDiff, HSL.out]
        simp only [e84, e85, e86, e87, e88, e89, e90, e91, e92, e93, e95, e96]
        clear e84 e85 e86 e87 e88 e89 e90 e91 e92 e93 e95 e96
        refine hKc _ _ ?_
        have HUb : Hid (Below wr.heap.size wa w16) := Lib.hid hb16
        have hzb := hb16.size
        obtain ⟨ds2, hds2⟩ : ∃ z, z = ds ++ [y] := ⟨_, rfl⟩
        have hl2 : ds.length + 1 = ds2.length := by rw [hds2]; simp
        rw [hl2, ← hds2] at fn13_1
        rw [hl2] at fn13_0
        have Hdcb0 := Lib.hid fn13_0
        obtain ⟨D2_, e2_, eD, _, hD2⟩ := OwnHands.at_ fn13_1
        cases eD
        have HDb := Lib.hid hD2
        have hm2 : ∀ x, x ∈ la ↔ x ∈ ds2 := by rw [hds2]; exact mem_snoc_same HM.out (List.mem_of_getElem? HY_.out)
        have HM2 := Lib.hid hm2
        have HL2 := Lib.hid hl2
        have hds6 : ds2.length ≤ 6 := by rw [← hl2, HDL.out]; omega
        clear hb16 fn13_0 fn13_1 hds2 hl2 hD2 hm2
        obtain ⟨wb, hwb⟩ : ∃ z, z = w16 := ⟨_, rfl⟩
        rw [← hwb]
        have HUb : Hid (Below wr.heap.size wr wb) := Lib.hid (by rw [hwb]; exact HUa.out.trans HUb.out)
        have Hdcb : Hid (Holds wb (w7.heap.size) 27 #[.int .i64 full, .int .i64 emp, .slice A2n13 ds2.length d2n13]) := Lib.hid (by rw [hwb]; exact Hdcb0.out)
        have HDb : Hid (HandsAt wb A2n13 ds2) := Lib.hid (by rw [hwb]; exact HDb.out)
        clear hwb
        have HBb := Lib.hid (HBr.out.trans (HUb.out.mono hsr))
        have hsb := HBb.out.size
        have hub := HUb.out.size
        have Hgb := Lib.hid (Hgr.out.up HUb.out)
        have Hccb : Hid (Holds wb (w2.heap.size + 1) 27 #[.int .i64 full, .int .i64 emp, .slice (some ⟨E, oo, none⟩) la.length q']) := Lib.hid (Hccr.out.up HUb.out)
        have HGb := Lib.hid (HGr.out.up HUb.out)
        have HHb := Lib.hid (HHr.out.up HUb.out)
        have hpos2 : ∀ x ∈ ds2, 0 < x.sum := fun x hx => HPOS.out x ((HM2.out x).2 hx)
        have hbe2 : bothErr err miss gs full emp ds2 = 0 := by unfold bothErr; rw [(bothErr_zero HE.out).1, cart_zero hds6 (by omega) (by omega) (by omega) (by omega) (fun x hx => HTE.out x ((HM2.out x).2 hx))]; simp
        have HE2 := Lib.hid hbe2
        have HPOS2 := Lib.hid hpos2
        have hla2 : ds2.length ≤ 1000 := by omega
        have hbs := bounds_same (miss := miss) HPOS.out HPOS2.out HM2.out
        have hcl := clash_len (miss := miss) HPOS.out HPOS2.out HM2.out
        have htp := topped_same (miss := miss) HPOS.out HPOS2.out HM2.out
        obtain ⟨tb, htb⟩ : ∃ z, z = toppedOf miss la := ⟨_, rfl⟩
        rw [← htb] at htp
        obtain ⟨ln, hln⟩ : ∃ z, z = (clashOf miss la).length := ⟨_, rfl⟩
        rw [← hln] at hcl
        have HCL1 := Lib.hid hln
        have HCL2 := Lib.hid hcl
        have HTB1 := Lib.hid htb
        have HTB2 := Lib.hid htp
        clear hpos2 hbe2 hcl htp htb hln
        cases hem : (boundsOf miss (fun _ => true) la).empty with
        | false =>
         as_aux_lemma =>
          obtain ⟨hbe, hbb⟩ := hbs
          rw [hem] at hbe
          have HEM := Lib.hid hem
          have HEM2 := Lib.hid hbe.symm
          obtain ⟨B, hBx⟩ : ∃ z, boundsOf miss (fun _ => true) la = z := ⟨_, rfl⟩
          have hb2 := hbb hem
          rw [hBx] at hb2
          have HBX := Lib.hid hBx
          have HBX2 := Lib.hid hb2.symm
          have hne := neq_spans B
          obtain ⟨cn, hcn⟩ : ∃ z, z = canOf B gs := ⟨_, rfl⟩
          have HCN := Lib.hid hcn
          have hcnl : cn.length ≤ 1000 := by rw [hcn]; have := can_len B gs; omega
          clear hcn hb2 hBx
          clear hem hbe hbb
          obtain ⟨kg0, kg1, kg2⟩ := Hgb.out.c3
          have lt_g : w2.heap.size < wb.heap.size := Hgb.out.lt
          obtain ⟨kcc0, kcc1, kcc2⟩ := Hccb.out.c3
          have lt_cc : w2.heap.size + 1 < wb.heap.size := Hccb.out.lt
          go_wp2_with fail
          refine (Bounds_ok err miss full emp G (some ⟨E, oo, none⟩) d q' gs la _ (HGb.out.up zg) hgl' (HHb.out.up zg) hla' HE.out HEM.out).mono ?_
          rw [HBX.out]
          rintro e w11 ⟨rfl, hb11⟩
          have Hg11 := Lib.hid (Holds.up (by have h := Hgb.out; exact zp4 : Holds _ (w2.heap.size) 24 #[.int .i64 err, .int .i64 miss, .slice G gs.length d]) hb11)
          have Hcc11 := Lib.hid (Holds.up (by have h := Hccb.out; exact zp4 : Holds _ (w2.heap.size + 1) 27 #[.int .i64 full, .int .i64 emp, .slice (some ⟨E, oo, none⟩) la.length q']) hb11)
          have Hdc11 := Lib.hid (Holds.up (by have h := Hdcb.out; exact zp4 : Holds _ (w7.heap.size) 27 #[.int .i64 full, .int .i64 emp, .slice A2n13 ds2.length d2n13]) hb11)
          have HS11 : Hid (Below wb.heap.size wb w11) := Lib.hid (Below.trans zg (hb11.mono (by first | exact Nat.le_refl _ | omega | (simp; done) | (simp; omega))))
          have HB11 : Hid (Below w.heap.size w w11) := Lib.hid (HBb.out.trans (HS11.out.mono hsb))
          have hs11 := HB11.out.size
          have hst11 := HS11.out.size
          have HG11 := Lib.hid (HGb.out.up HS11.out)
          have HH11 := Lib.hid (HHb.out.up HS11.out)
          have HD11 := Lib.hid (HDb.out.up HS11.out)
          clear hb11
          clear kg0 kg1 kg2 lt_g kcc0 kcc1 kcc2 lt_cc
          obtain ⟨kg0, kg1, kg2⟩ := Hg11.out.c3
          have lt_g : w2.heap.size < w11.heap.size := Hg11.out.lt
          obtain ⟨kdc0, kdc1, kdc2⟩ := Hdc11.out.c3
          have lt_dc : w7.heap.size < w11.heap.size := Hdc11.out.lt
          go_wp2_with fail
          refine (Bounds_ok err miss full emp G A2n13 d d2n13 gs ds2 _ (HG11.out.up zg) hgl' (HD11.out.up zg) hla2 HE2.out HEM2.out).mono ?_
          rw [HBX2.out]
          rintro e w12 ⟨rfl, hb12⟩
          have Hg12 := Lib.hid (Holds.up (by have h := Hg11.out; exact zp4 : Holds _ (w2.heap.size) 24 #[.int .i64 err, .int .i64 miss, .slice G gs.length d]) hb12)
          have Hcc12 := Lib.hid (Holds.up (by have h := Hcc11.out; exact zp4 : Holds _ (w2.heap.size + 1) 27 #[.int .i64 full, .int .i64 emp, .slice (some ⟨E, oo, none⟩) la.length q']) hb12)
          have Hdc12 := Lib.hid (Holds.up (by have h := Hdc11.out; exact zp4 : Holds _ (w7.heap.size) 27 #[.int .i64 full, .int .i64 emp, .slice A2n13 ds2.length d2n13]) hb12)
          have Ha12 := Lib.hid (Holds.up (zp4 : Holds _ (w11.heap.size) 76 #[.int .i64 B.l0, .int .i64 B.h0, .int .i64 B.l1, .int .i64 B.h1, .int .i64 B.l2, .int .i64 B.h2, .int .i64 B.l3, .int .i64 B.h3]) hb12)
          have HS12 : Hid (Below w11.heap.size w11 w12) := Lib.hid (Below.trans zg (hb12.mono (by first | exact Nat.le_refl _ | omega | (simp; done) | (simp; omega))))
          have HB12 : Hid (Below w.heap.size w w12) := Lib.hid (HB11.out.trans (HS12.out.mono hs11))
          have hs12 := HB12.out.size
          have hst12 := HS12.out.size
          have HG12 := Lib.hid (HG11.out.up HS12.out)
          have HH12 := Lib.hid (HH11.out.up HS12.out)
          have HD12 := Lib.hid (HD11.out.up HS12.out)
          clear hb12
          clear kg0 kg1 kg2 lt_g kdc0 kdc1 kdc2 lt_dc
          obtain ⟨kg0, kg1, kg2⟩ := Hg12.out.c3
          have lt_g : w2.heap.size < w12.heap.size := Hg12.out.lt
          obtain ⟨kcc0, kcc1, kcc2⟩ := Hcc12.out.c3
          have lt_cc : w2.heap.size + 1 < w12.heap.size := Hcc12.out.lt
          go_wp2_with fail
          refine (Can_ok err miss full emp G (some ⟨E, oo, none⟩) d q' gs la _ (HG12.out.up zg) hgl' hgd (HH12.out.up zg) hla' HE.out HEM.out).mono ?_
          rintro e w13 ⟨v13, rfl, hown, hb13⟩
          have Hg13 := Lib.hid (Holds.up (by have h := Hg12.out; exact zp4 : Holds _ (w2.heap.size) 24 #[.int .i64 err, .int .i64 miss, .slice G gs.length d]) hb13)
          have Hcc13 := Lib.hid (Holds.up (by have h := Hcc12.out; exact zp4 : Holds _ (w2.heap.size + 1) 27 #[.int .i64 full, .int .i64 emp, .slice (some ⟨E, oo, none⟩) la.length q']) hb13)
          have Hdc13 := Lib.hid (Holds.up (by have h := Hdc12.out; exact zp4 : Holds _ (w7.heap.size) 27 #[.int .i64 full, .int .i64 emp, .slice A2n13 ds2.length d2n13]) hb13)
          have Ha13 := Lib.hid (Holds.up (by have h := Ha12.out; exact zp4 : Holds _ (w11.heap.size) 76 #[.int .i64 B.l0, .int .i64 B.h0, .int .i64 B.l1, .int .i64 B.h1, .int .i64 B.l2, .int .i64 B.h2, .int .i64 B.l3, .int .i64 B.h3]) hb13)
          have Hb13 := Lib.hid (Holds.up (zp4 : Holds _ (w12.heap.size) 76 #[.int .i64 B.l0, .int .i64 B.h0, .int .i64 B.l1, .int .i64 B.h1, .int .i64 B.l2, .int .i64 B.h2, .int .i64 B.l3, .int .i64 B.h3]) hb13)
          have HS13 : Hid (Below w12.heap.size w12 w13) := Lib.hid (Below.trans zg (hb13.mono (by first | exact Nat.le_refl _ | omega | (simp; done) | (simp; omega))))
          have HB13 : Hid (Below w.heap.size w w13) := Lib.hid (HB12.out.trans (HS13.out.mono hs12))
          have hs13 := HB13.out.size
          have hst13 := HS13.out.size
          have HG13 := Lib.hid (HG12.out.up HS13.out)
          have HH13 := Lib.hid (HH12.out.up HS13.out)
          have HD13 := Lib.hid (HD12.out.up HS13.out)
          clear hb13
          rw [HBX.out, ← HCN.out] at hown
          obtain ⟨A13, c13, e13, hi13⟩ := ints_of_row hown
          subst e13
          have HI13 := Lib.hid hi13
          clear hown hi13
          clear kg0 kg1 kg2 lt_g kcc0 kcc1 kcc2 lt_cc
          obtain ⟨kg0, kg1, kg2⟩ := Hg13.out.c3
          have lt_g : w2.heap.size < w13.heap.size := Hg13.out.lt
          obtain ⟨kdc0, kdc1, kdc2⟩ := Hdc13.out.c3
          have lt_dc : w7.heap.size < w13.heap.size := Hdc13.out.lt
          go_wp2_with fail
          refine (Can_ok err miss full emp G A2n13 d d2n13 gs ds2 _ (HG13.out.up zg) hgl' hgd (HD13.out.up zg) hla2 HE2.out HEM2.out).mono ?_
          rintro e w14 ⟨v14, rfl, hown, hb14⟩
          have Hg14 := Lib.hid (Holds.up (by have h := Hg13.out; exact zp4 : Holds _ (w2.heap.size) 24 #[.int .i64 err, .int .i64 miss, .slice G gs.length d]) hb14)
          have Hcc14 := Lib.hid (Holds.up (by have h := Hcc13.out; exact zp4 : Holds _ (w2.heap.size + 1) 27 #[.int .i64 full, .int .i64 emp, .slice (some ⟨E, oo, none⟩) la.length q']) hb14)
          have Hdc14 := Lib.hid (Holds.up (by have h := Hdc13.out; exact zp4 : Holds _ (w7.heap.size) 27 #[.int .i64 full, .int .i64 emp, .slice A2n13 ds2.length d2n13]) hb14)
          have Ha14 := Lib.hid (Holds.up (by have h := Ha13.out; exact zp4 : Holds _ (w11.heap.size) 76 #[.int .i64 B.l0, .int .i64 B.h0, .int .i64 B.l1, .int .i64 B.h1, .int .i64 B.l2, .int .i64 B.h2, .int .i64 B.l3, .int .i64 B.h3]) hb14)
          have Hb14 := Lib.hid (Holds.up (by have h := Hb13.out; exact zp4 : Holds _ (w12.heap.size) 76 #[.int .i64 B.l0, .int .i64 B.h0, .int .i64 B.l1, .int .i64 B.h1, .int .i64 B.l2, .int .i64 B.h2, .int .i64 B.l3, .int .i64 B.h3]) hb14)
          have HS14 : Hid (Below w13.heap.size w13 w14) := Lib.hid (Below.trans zg (hb14.mono (by first | exact Nat.le_refl _ | omega | (simp; done) | (simp; omega))))
          have HB14 : Hid (Below w.heap.size w w14) := Lib.hid (HB13.out.trans (HS14.out.mono hs13))
          have hs14 := HB14.out.size
          have hst14 := HS14.out.size
          have HG14 := Lib.hid (HG13.out.up HS14.out)
          have HH14 := Lib.hid (HH13.out.up HS14.out)
          have HD14 := Lib.hid (HD13.out.up HS14.out)
          have HI14 := Lib.hid (HI13.out.up HS14.out)
          clear hb14
          rw [HBX2.out, ← HCN.out] at hown
          obtain ⟨A14, c14, e14, hi14⟩ := ints_of_row hown
          subst e14
          have HJ14 := Lib.hid hi14
          clear hown hi14
          clear kg0 kg1 kg2 lt_g kdc0 kdc1 kdc2 lt_dc
          obtain ⟨ka0, ka1, ka2, ka3, ka4, ka5, ka6, ka7⟩ := Ha14.out.c8
          have lt_a : w11.heap.size < w14.heap.size := Ha14.out.lt
          obtain ⟨kb0, kb1, kb2, kb3, kb4, kb5, kb6, kb7⟩ := Hb14.out.c8
          have lt_b : w12.heap.size < w14.heap.size := Hb14.out.lt
          go_wp2_with fail
          refine (EqualInt_eq A13 A14 c13 c14 cn cn _ (HI14.out.up zg) (HJ14.out.up zg) rfl (by omega)).mono ?_
          rw [beq_self_eq_true]
          rintro e w15 ⟨rfl, hb15⟩
          have Hg15 := Lib.hid (Holds.up (by have h := Hg14.out; exact zp4 : Holds _ (w2.heap.size) 24 #[.int .i64 err, .int .i64 miss, .slice G gs.length d]) hb15)
          have Hcc15 := Lib.hid (Holds.up (by have h := Hcc14.out; exact zp4 : Holds _ (w2.heap.size + 1) 27 #[.int .i64 full, .int .i64 emp, .slice (some ⟨E, oo, none⟩) la.length q']) hb15)
          have Hdc15 := Lib.hid (Holds.up (by have h := Hdc14.out; exact zp4 : Holds _ (w7.heap.size) 27 #[.int .i64 full, .int .i64 emp, .slice A2n13 ds2.length d2n13]) hb15)
          have Ha15 := Lib.hid (Holds.up (by have h := Ha14.out; exact zp4 : Holds _ (w11.heap.size) 76 #[.int .i64 B.l0, .int .i64 B.h0, .int .i64 B.l1, .int .i64 B.h1, .int .i64 B.l2, .int .i64 B.h2, .int .i64 B.l3, .int .i64 B.h3]) hb15)
          have Hb15 := Lib.hid (Holds.up (by have h := Hb14.out; exact zp4 : Holds _ (w12.heap.size) 76 #[.int .i64 B.l0, .int .i64 B.h0, .int .i64 B.l1, .int .i64 B.h1, .int .i64 B.l2, .int .i64 B.h2, .int .i64 B.l3, .int .i64 B.h3]) hb15)
          have HS15 : Hid (Below w14.heap.size w14 w15) := Lib.hid (Below.trans zg (hb15.mono (by first | exact Nat.le_refl _ | omega | (simp; done) | (simp; omega))))
          have HB15 : Hid (Below w.heap.size w w15) := Lib.hid (HB14.out.trans (HS15.out.mono hs14))
          have hs15 := HB15.out.size
          have hst15 := HS15.out.size
          have HG15 := Lib.hid (HG14.out.up HS15.out)
          have HH15 := Lib.hid (HH14.out.up HS15.out)
          have HD15 := Lib.hid (HD14.out.up HS15.out)
          have HI15 := Lib.hid (HI14.out.up HS15.out)
          clear hb15
          clear ka0 ka1 ka2 ka3 ka4 ka5 ka6 ka7 lt_a kb0 kb1 kb2 kb3 kb4 kb5 kb6 kb7 lt_b
          obtain ⟨kg0, kg1, kg2⟩ := Hg15.out.c3
          have lt_g : w2.heap.size < w15.heap.size := Hg15.out.lt
          obtain ⟨kcc0, kcc1, kcc2⟩ := Hcc15.out.c3
          have lt_cc : w2.heap.size + 1 < w15.heap.size := Hcc15.out.lt
          have hec : (if ln = 0 then (6 : Int) else 0) = 6 := if_pos (by rw [HCL1.out, clash_no HPOS.out HEM.out]; rfl)
          have HEC := Lib.hid hec
          clear hec
          have hln4 : ln ≤ 6 := by rw [HCL1.out]; rw [clash_no HPOS.out HEM.out]; decide
          go_wp2_with fail
          refine (Clash_ok err miss full emp G (some ⟨E, oo, none⟩) d q' gs la _ (HG15.out.up zg) hgl' (HH15.out.up zg) hla' HE.out).mono ?_
          rintro e w16 ⟨v16, rfl, hown, hb16⟩
          have Hg16 := Lib.hid (Holds.up (by have h := Hg15.out; exact zp4 : Holds _ (w2.heap.size) 24 #[.int .i64 err, .int .i64 miss, .slice G gs.length d]) hb16)
          have Hcc16 := Lib.hid (Holds.up (by have h := Hcc15.out; exact zp4 : Holds _ (w2.heap.size + 1) 27 #[.int .i64 full, .int .i64 emp, .slice (some ⟨E, oo, none⟩) la.length q']) hb16)
          have Hdc16 := Lib.hid (Holds.up (by have h := Hdc15.out; exact zp4 : Holds _ (w7.heap.size) 27 #[.int .i64 full, .int .i64 emp, .slice A2n13 ds2.length d2n13]) hb16)
          have Ha16 := Lib.hid (Holds.up (by have h := Ha15.out; exact zp4 : Holds _ (w11.heap.size) 76 #[.int .i64 B.l0, .int .i64 B.h0, .int .i64 B.l1, .int .i64 B.h1, .int .i64 B.l2, .int .i64 B.h2, .int .i64 B.l3, .int .i64 B.h3]) hb16)
          have Hb16 := Lib.hid (Holds.up (by have h := Hb15.out; exact zp4 : Holds _ (w12.heap.size) 76 #[.int .i64 B.l0, .int .i64 B.h0, .int .i64 B.l1, .int .i64 B.h1, .int .i64 B.l2, .int .i64 B.h2, .int .i64 B.l3, .int .i64 B.h3]) hb16)
          have HS16 : Hid (Below w15.heap.size w15 w16) := Lib.hid (Below.trans zg (hb16.mono (by first | exact Nat.le_refl _ | omega | (simp; done) | (simp; omega))))
          have HB16 : Hid (Below w.heap.size w w16) := Lib.hid (HB15.out.trans (HS16.out.mono hs15))
          have hs16 := HB16.out.size
          have hst16 := HS16.out.size
          have HG16 := Lib.hid (HG15.out.up HS16.out)
          have HH16 := Lib.hid (HH15.out.up HS16.out)
          have HD16 := Lib.hid (HD15.out.up HS16.out)
          clear hb16
          obtain ⟨A16, c16, e16, _⟩ := ints_of_row hown
          subst e16
          clear hown
          rw [← HCL1.out, HEC.out]
          clear kg0 kg1 kg2 lt_g kcc0 kcc1 kcc2 lt_cc
          obtain ⟨kg0, kg1, kg2⟩ := Hg16.out.c3
          have lt_g : w2.heap.size < w16.heap.size := Hg16.out.lt
          obtain ⟨kdc0, kdc1, kdc2⟩ := Hdc16.out.c3
          have lt_dc : w7.heap.size < w16.heap.size := Hdc16.out.lt
          go_wp2_with fail
          refine (Clash_ok err miss full emp G A2n13 d d2n13 gs ds2 _ (HG16.out.up zg) hgl' (HD16.out.up zg) hla2 HE2.out).mono ?_
          rintro e w17 ⟨v17, rfl, hown, hb17⟩
          have Hg17 := Lib.hid (Holds.up (by have h := Hg16.out; exact zp4 : Holds _ (w2.heap.size) 24 #[.int .i64 err, .int .i64 miss, .slice G gs.length d]) hb17)
          have Hcc17 := Lib.hid (Holds.up (by have h := Hcc16.out; exact zp4 : Holds _ (w2.heap.size + 1) 27 #[.int .i64 full, .int .i64 emp, .slice (some ⟨E, oo, none⟩) la.length q']) hb17)
          have Hdc17 := Lib.hid (Holds.up (by have h := Hdc16.out; exact zp4 : Holds _ (w7.heap.size) 27 #[.int .i64 full, .int .i64 emp, .slice A2n13 ds2.length d2n13]) hb17)
          have Ha17 := Lib.hid (Holds.up (by have h := Ha16.out; exact zp4 : Holds _ (w11.heap.size) 76 #[.int .i64 B.l0, .int .i64 B.h0, .int .i64 B.l1, .int .i64 B.h1, .int .i64 B.l2, .int .i64 B.h2, .int .i64 B.l3, .int .i64 B.h3]) hb17)
          have Hb17 := Lib.hid (Holds.up (by have h := Hb16.out; exact zp4 : Holds _ (w12.heap.size) 76 #[.int .i64 B.l0, .int .i64 B.h0, .int .i64 B.l1, .int .i64 B.h1, .int .i64 B.l2, .int .i64 B.h2, .int .i64 B.l3, .int .i64 B.h3]) hb17)
          have HS17 : Hid (Below w16.heap.size w16 w17) := Lib.hid (Below.trans zg (hb17.mono (by first | exact Nat.le_refl _ | omega | (simp; done) | (simp; omega))))
          have HB17 : Hid (Below w.heap.size w w17) := Lib.hid (HB16.out.trans (HS17.out.mono hs16))
          have hs17 := HB17.out.size
          have hst17 := HS17.out.size
          have HG17 := Lib.hid (HG16.out.up HS17.out)
          have HH17 := Lib.hid (HH16.out.up HS17.out)
          have HD17 := Lib.hid (HD16.out.up HS17.out)
          clear hb17
          obtain ⟨A17, c17, e17, _⟩ := ints_of_row hown
          subst e17
          clear hown
          rw [← HCL2.out, HEC.out]
          clear kg0 kg1 kg2 lt_g kdc0 kdc1 kdc2 lt_dc
          obtain ⟨kg0, kg1, kg2⟩ := Hg17.out.c3
          have lt_g : w2.heap.size < w17.heap.size := Hg17.out.lt
          obtain ⟨kcc0, kcc1, kcc2⟩ := Hcc17.out.c3
          have lt_cc : w2.heap.size + 1 < w17.heap.size := Hcc17.out.lt
          go_wp2_with fail
          refine (Topped_ok err miss full emp G (some ⟨E, oo, none⟩) d q' gs la _ (HG17.out.up zg) hgl' (HH17.out.up zg) hla' HE.out).mono ?_
          rw [← HTB1.out]
          rintro e w18 ⟨rfl, hb18⟩
          have Hg18 := Lib.hid (Holds.up (by have h := Hg17.out; exact zp4 : Holds _ (w2.heap.size) 24 #[.int .i64 err, .int .i64 miss, .slice G gs.length d]) hb18)
          have Hcc18 := Lib.hid (Holds.up (by have h := Hcc17.out; exact zp4 : Holds _ (w2.heap.size + 1) 27 #[.int .i64 full, .int .i64 emp, .slice (some ⟨E, oo, none⟩) la.length q']) hb18)
          have Hdc18 := Lib.hid (Holds.up (by have h := Hdc17.out; exact zp4 : Holds _ (w7.heap.size) 27 #[.int .i64 full, .int .i64 emp, .slice A2n13 ds2.length d2n13]) hb18)
          have Ha18 := Lib.hid (Holds.up (by have h := Ha17.out; exact zp4 : Holds _ (w11.heap.size) 76 #[.int .i64 B.l0, .int .i64 B.h0, .int .i64 B.l1, .int .i64 B.h1, .int .i64 B.l2, .int .i64 B.h2, .int .i64 B.l3, .int .i64 B.h3]) hb18)
          have Hb18 := Lib.hid (Holds.up (by have h := Hb17.out; exact zp4 : Holds _ (w12.heap.size) 76 #[.int .i64 B.l0, .int .i64 B.h0, .int .i64 B.l1, .int .i64 B.h1, .int .i64 B.l2, .int .i64 B.h2, .int .i64 B.l3, .int .i64 B.h3]) hb18)
          have HS18 : Hid (Below w17.heap.size w17 w18) := Lib.hid (Below.trans zg (hb18.mono (by first | exact Nat.le_refl _ | omega | (simp; done) | (simp; omega))))
          have HB18 : Hid (Below w.heap.size w w18) := Lib.hid (HB17.out.trans (HS18.out.mono hs17))
          have hs18 := HB18.out.size
          have hst18 := HS18.out.size
          have HG18 := Lib.hid (HG17.out.up HS18.out)
          have HH18 := Lib.hid (HH17.out.up HS18.out)
          have HD18 := Lib.hid (HD17.out.up HS18.out)
          clear hb18
          clear kg0 kg1 kg2 lt_g kcc0 kcc1 kcc2 lt_cc
          obtain ⟨kg0, kg1, kg2⟩ := Hg18.out.c3
          have lt_g : w2.heap.size < w18.heap.size := Hg18.out.lt
          obtain ⟨kdc0, kdc1, kdc2⟩ := Hdc18.out.c3
          have lt_dc : w7.heap.size < w18.heap.size := Hdc18.out.lt
          go_wp2_with fail
          refine (Topped_ok err miss full emp G A2n13 d d2n13 gs ds2 _ (HG18.out.up zg) hgl' (HD18.out.up zg) hla2 HE2.out).mono ?_
          rw [HTB2.out]
          rintro e w19 ⟨rfl, hb19⟩
          have Hg19 := Lib.hid (Holds.up (by have h := Hg18.out; exact zp4 : Holds _ (w2.heap.size) 24 #[.int .i64 err, .int .i64 miss, .slice G gs.length d]) hb19)
          have Hcc19 := Lib.hid (Holds.up (by have h := Hcc18.out; exact zp4 : Holds _ (w2.heap.size + 1) 27 #[.int .i64 full, .int .i64 emp, .slice (some ⟨E, oo, none⟩) la.length q']) hb19)
          have Hdc19 := Lib.hid (Holds.up (by have h := Hdc18.out; exact zp4 : Holds _ (w7.heap.size) 27 #[.int .i64 full, .int .i64 emp, .slice A2n13 ds2.length d2n13]) hb19)
          have Ha19 := Lib.hid (Holds.up (by have h := Ha18.out; exact zp4 : Holds _ (w11.heap.size) 76 #[.int .i64 B.l0, .int .i64 B.h0, .int .i64 B.l1, .int .i64 B.h1, .int .i64 B.l2, .int .i64 B.h2, .int .i64 B.l3, .int .i64 B.h3]) hb19)
          have Hb19 := Lib.hid (Holds.up (by have h := Hb18.out; exact zp4 : Holds _ (w12.heap.size) 76 #[.int .i64 B.l0, .int .i64 B.h0, .int .i64 B.l1, .int .i64 B.h1, .int .i64 B.l2, .int .i64 B.h2, .int .i64 B.l3, .int .i64 B.h3]) hb19)
          have HS19 : Hid (Below w18.heap.size w18 w19) := Lib.hid (Below.trans zg (hb19.mono (by first | exact Nat.le_refl _ | omega | (simp; done) | (simp; omega))))
          have HB19 : Hid (Below w.heap.size w w19) := Lib.hid (HB18.out.trans (HS19.out.mono hs18))
          have hs19 := HB19.out.size
          have hst19 := HS19.out.size
          have HG19 := Lib.hid (HG18.out.up HS19.out)
          have HH19 := Lib.hid (HH18.out.up HS19.out)
          have HD19 := Lib.hid (HD18.out.up HS19.out)
          clear hb19
          clear kg0 kg1 kg2 lt_g kdc0 kdc1 kdc2 lt_dc
          cases tb
          all_goals
           go_wp2_with fail
           refine (awake_any _).mono ?_
           rintro e' w40 ⟨rfl, hb40⟩
           go_wp2_with fail
           go_ret
           exact ⟨rfl, HB19.out.trans (hb40.mono hs19)⟩
        | true =>
         as_aux_lemma =>
          obtain ⟨hbe, hbb⟩ := hbs
          rw [hem] at hbe
          have HEM := Lib.hid hem
          have HEM2 := Lib.hid hbe.symm
          have hne := neq_zero
          clear hem hbe hbb
          obtain ⟨kg0, kg1, kg2⟩ := Hgb.out.c3
          have lt_g : w2.heap.size < wb.heap.size := Hgb.out.lt
          obtain ⟨kcc0, kcc1, kcc2⟩ := Hccb.out.c3
          have lt_cc : w2.heap.size + 1 < wb.heap.size := Hccb.out.lt
          go_wp2_with fail
          refine (Bounds_clash err miss full emp G (some ⟨E, oo, none⟩) d q' gs la _ (HGb.out.up zg) hgl' (HHb.out.up zg) hla' HE.out HEM.out).mono ?_
          rintro e w11 ⟨rfl, hb11⟩
          have Hg11 := Lib.hid (Holds.up (by have h := Hgb.out; exact zp4 : Holds _ (w2.heap.size) 24 #[.int .i64 err, .int .i64 miss, .slice G gs.length d]) hb11)
          have Hcc11 := Lib.hid (Holds.up (by have h := Hccb.out; exact zp4 : Holds _ (w2.heap.size + 1) 27 #[.int .i64 full, .int .i64 emp, .slice (some ⟨E, oo, none⟩) la.length q']) hb11)
          have Hdc11 := Lib.hid (Holds.up (by have h := Hdcb.out; exact zp4 : Holds _ (w7.heap.size) 27 #[.int .i64 full, .int .i64 emp, .slice A2n13 ds2.length d2n13]) hb11)
          have HS11 : Hid (Below wb.heap.size wb w11) := Lib.hid (Below.trans zg (hb11.mono (by first | exact Nat.le_refl _ | omega | (simp; done) | (simp; omega))))
          have HB11 : Hid (Below w.heap.size w w11) := Lib.hid (HBb.out.trans (HS11.out.mono hsb))
          have hs11 := HB11.out.size
          have hst11 := HS11.out.size
          have HG11 := Lib.hid (HGb.out.up HS11.out)
          have HH11 := Lib.hid (HHb.out.up HS11.out)
          have HD11 := Lib.hid (HDb.out.up HS11.out)
          clear hb11
          clear kg0 kg1 kg2 lt_g kcc0 kcc1 kcc2 lt_cc
          obtain ⟨kg0, kg1, kg2⟩ := Hg11.out.c3
          have lt_g : w2.heap.size < w11.heap.size := Hg11.out.lt
          obtain ⟨kdc0, kdc1, kdc2⟩ := Hdc11.out.c3
          have lt_dc : w7.heap.size < w11.heap.size := Hdc11.out.lt
          go_wp2_with fail
          refine (Bounds_clash err miss full emp G A2n13 d d2n13 gs ds2 _ (HG11.out.up zg) hgl' (HD11.out.up zg) hla2 HE2.out HEM2.out).mono ?_
          rintro e w12 ⟨rfl, hb12⟩
          have Hg12 := Lib.hid (Holds.up (by have h := Hg11.out; exact zp4 : Holds _ (w2.heap.size) 24 #[.int .i64 err, .int .i64 miss, .slice G gs.length d]) hb12)
          have Hcc12 := Lib.hid (Holds.up (by have h := Hcc11.out; exact zp4 : Holds _ (w2.heap.size + 1) 27 #[.int .i64 full, .int .i64 emp, .slice (some ⟨E, oo, none⟩) la.length q']) hb12)
          have Hdc12 := Lib.hid (Holds.up (by have h := Hdc11.out; exact zp4 : Holds _ (w7.heap.size) 27 #[.int .i64 full, .int .i64 emp, .slice A2n13 ds2.length d2n13]) hb12)
          have Ha12 := Lib.hid (Holds.up (zp4 : Holds _ (w11.heap.size) 76 #[.int .i64 0, .int .i64 0, .int .i64 0, .int .i64 0, .int .i64 0, .int .i64 0, .int .i64 0, .int .i64 0]) hb12)
          have HS12 : Hid (Below w11.heap.size w11 w12) := Lib.hid (Below.trans zg (hb12.mono (by first | exact Nat.le_refl _ | omega | (simp; done) | (simp; omega))))
          have HB12 : Hid (Below w.heap.size w w12) := Lib.hid (HB11.out.trans (HS12.out.mono hs11))
          have hs12 := HB12.out.size
          have hst12 := HS12.out.size
          have HG12 := Lib.hid (HG11.out.up HS12.out)
          have HH12 := Lib.hid (HH11.out.up HS12.out)
          have HD12 := Lib.hid (HD11.out.up HS12.out)
          clear hb12
          clear kg0 kg1 kg2 lt_g kdc0 kdc1 kdc2 lt_dc
          obtain ⟨kg0, kg1, kg2⟩ := Hg12.out.c3
          have lt_g : w2.heap.size < w12.heap.size := Hg12.out.lt
          obtain ⟨kcc0, kcc1, kcc2⟩ := Hcc12.out.c3
          have lt_cc : w2.heap.size + 1 < w12.heap.size := Hcc12.out.lt
          go_wp2_with fail
          refine (Can_clash err miss full emp G (some ⟨E, oo, none⟩) d q' gs la _ (HG12.out.up zg) hgl' hgd (HH12.out.up zg) hla' HE.out HEM.out).mono ?_
          rintro e w13 ⟨rfl, hb13⟩
          have Hg13 := Lib.hid (Holds.up (by have h := Hg12.out; exact zp4 : Holds _ (w2.heap.size) 24 #[.int .i64 err, .int .i64 miss, .slice G gs.length d]) hb13)
          have Hcc13 := Lib.hid (Holds.up (by have h := Hcc12.out; exact zp4 : Holds _ (w2.heap.size + 1) 27 #[.int .i64 full, .int .i64 emp, .slice (some ⟨E, oo, none⟩) la.length q']) hb13)
          have Hdc13 := Lib.hid (Holds.up (by have h := Hdc12.out; exact zp4 : Holds _ (w7.heap.size) 27 #[.int .i64 full, .int .i64 emp, .slice A2n13 ds2.length d2n13]) hb13)
          have Ha13 := Lib.hid (Holds.up (by have h := Ha12.out; exact zp4 : Holds _ (w11.heap.size) 76 #[.int .i64 0, .int .i64 0, .int .i64 0, .int .i64 0, .int .i64 0, .int .i64 0, .int .i64 0, .int .i64 0]) hb13)
          have Hb13 := Lib.hid (Holds.up (zp4 : Holds _ (w12.heap.size) 76 #[.int .i64 0, .int .i64 0, .int .i64 0, .int .i64 0, .int .i64 0, .int .i64 0, .int .i64 0, .int .i64 0]) hb13)
          have HS13 : Hid (Below w12.heap.size w12 w13) := Lib.hid (Below.trans zg (hb13.mono (by first | exact Nat.le_refl _ | omega | (simp; done) | (simp; omega))))
          have HB13 : Hid (Below w.heap.size w w13) := Lib.hid (HB12.out.trans (HS13.out.mono hs12))
          have hs13 := HB13.out.size
          have hst13 := HS13.out.size
          have HG13 := Lib.hid (HG12.out.up HS13.out)
          have HH13 := Lib.hid (HH12.out.up HS13.out)
          have HD13 := Lib.hid (HD12.out.up HS13.out)
          clear hb13
          clear kg0 kg1 kg2 lt_g kcc0 kcc1 kcc2 lt_cc
          obtain ⟨kg0, kg1, kg2⟩ := Hg13.out.c3
          have lt_g : w2.heap.size < w13.heap.size := Hg13.out.lt
          obtain ⟨kdc0, kdc1, kdc2⟩ := Hdc13.out.c3
          have lt_dc : w7.heap.size < w13.heap.size := Hdc13.out.lt
          go_wp2_with fail
          refine (Can_clash err miss full emp G A2n13 d d2n13 gs ds2 _ (HG13.out.up zg) hgl' hgd (HD13.out.up zg) hla2 HE2.out HEM2.out).mono ?_
          rintro e w14 ⟨rfl, hb14⟩
          have Hg14 := Lib.hid (Holds.up (by have h := Hg13.out; exact zp4 : Holds _ (w2.heap.size) 24 #[.int .i64 err, .int .i64 miss, .slice G gs.length d]) hb14)
          have Hcc14 := Lib.hid (Holds.up (by have h := Hcc13.out; exact zp4 : Holds _ (w2.heap.size + 1) 27 #[.int .i64 full, .int .i64 emp, .slice (some ⟨E, oo, none⟩) la.length q']) hb14)
          have Hdc14 := Lib.hid (Holds.up (by have h := Hdc13.out; exact zp4 : Holds _ (w7.heap.size) 27 #[.int .i64 full, .int .i64 emp, .slice A2n13 ds2.length d2n13]) hb14)
          have Ha14 := Lib.hid (Holds.up (by have h := Ha13.out; exact zp4 : Holds _ (w11.heap.size) 76 #[.int .i64 0, .int .i64 0, .int .i64 0, .int .i64 0, .int .i64 0, .int .i64 0, .int .i64 0, .int .i64 0]) hb14)
          have Hb14 := Lib.hid (Holds.up (by have h := Hb13.out; exact zp4 : Holds _ (w12.heap.size) 76 #[.int .i64 0, .int .i64 0, .int .i64 0, .int .i64 0, .int .i64 0, .int .i64 0, .int .i64 0, .int .i64 0]) hb14)
          have HS14 : Hid (Below w13.heap.size w13 w14) := Lib.hid (Below.trans zg (hb14.mono (by first | exact Nat.le_refl _ | omega | (simp; done) | (simp; omega))))
          have HB14 : Hid (Below w.heap.size w w14) := Lib.hid (HB13.out.trans (HS14.out.mono hs13))
          have hs14 := HB14.out.size
          have hst14 := HS14.out.size
          have HG14 := Lib.hid (HG13.out.up HS14.out)
          have HH14 := Lib.hid (HH13.out.up HS14.out)
          have HD14 := Lib.hid (HD13.out.up HS14.out)
          clear hb14
          clear kg0 kg1 kg2 lt_g kdc0 kdc1 kdc2 lt_dc
          obtain ⟨ka0, ka1, ka2, ka3, ka4, ka5, ka6, ka7⟩ := Ha14.out.c8
          have lt_a : w11.heap.size < w14.heap.size := Ha14.out.lt
          obtain ⟨kb0, kb1, kb2, kb3, kb4, kb5, kb6, kb7⟩ := Hb14.out.c8
          have lt_b : w12.heap.size < w14.heap.size := Hb14.out.lt
          go_wp2_with fail
          refine (EqualInt_eq none none 0 0 [] [] _ (fun h => absurd h (Nat.lt_irrefl 0)) (fun h => absurd h (Nat.lt_irrefl 0)) rfl (by decide)).mono ?_
          rw [beq_self_eq_true]
          rintro e w15 ⟨rfl, hb15⟩
          have Hg15 := Lib.hid (Holds.up (by have h := Hg14.out; exact zp4 : Holds _ (w2.heap.size) 24 #[.int .i64 err, .int .i64 miss, .slice G gs.length d]) hb15)
          have Hcc15 := Lib.hid (Holds.up (by have h := Hcc14.out; exact zp4 : Holds _ (w2.heap.size + 1) 27 #[.int .i64 full, .int .i64 emp, .slice (some ⟨E, oo, none⟩) la.length q']) hb15)
          have Hdc15 := Lib.hid (Holds.up (by have h := Hdc14.out; exact zp4 : Holds _ (w7.heap.size) 27 #[.int .i64 full, .int .i64 emp, .slice A2n13 ds2.length d2n13]) hb15)
          have Ha15 := Lib.hid (Holds.up (by have h := Ha14.out; exact zp4 : Holds _ (w11.heap.size) 76 #[.int .i64 0, .int .i64 0, .int .i64 0, .int .i64 0, .int .i64 0, .int .i64 0, .int .i64 0, .int .i64 0]) hb15)
          have Hb15 := Lib.hid (Holds.up (by have h := Hb14.out; exact zp4 : Holds _ (w12.heap.size) 76 #[.int .i64 0, .int .i64 0, .int .i64 0, .int .i64 0, .int .i64 0, .int .i64 0, .int .i64 0, .int .i64 0]) hb15)
          have HS15 : Hid (Below w14.heap.size w14 w15) := Lib.hid (Below.trans zg (hb15.mono (by first | exact Nat.le_refl _ | omega | (simp; done) | (simp; omega))))
          have HB15 : Hid (Below w.heap.size w w15) := Lib.hid (HB14.out.trans (HS15.out.mono hs14))
          have hs15 := HB15.out.size
          have hst15 := HS15.out.size
          have HG15 := Lib.hid (HG14.out.up HS15.out)
          have HH15 := Lib.hid (HH14.out.up HS15.out)
          have HD15 := Lib.hid (HD14.out.up HS15.out)
          clear hb15
          clear ka0 ka1 ka2 ka3 ka4 ka5 ka6 ka7 lt_a kb0 kb1 kb2 kb3 kb4 kb5 kb6 kb7 lt_b
          obtain ⟨kg0, kg1, kg2⟩ := Hg15.out.c3
          have lt_g : w2.heap.size < w15.heap.size := Hg15.out.lt
          obtain ⟨kcc0, kcc1, kcc2⟩ := Hcc15.out.c3
          have lt_cc : w2.heap.size + 1 < w15.heap.size := Hcc15.out.lt
          have hec : (if ln = 0 then (6 : Int) else 0) = 0 := if_neg (by have := (clash_yes HPOS.out HEM.out).2.2.1; rw [HCL1.out]; omega)
          have HEC := Lib.hid hec
          clear hec
          have hln4 : ln ≤ 6 := by rw [HCL1.out]; have := (clash_yes HPOS.out HEM.out).2.2.2; omega
          go_wp2_with fail
          refine (Clash_ok err miss full emp G (some ⟨E, oo, none⟩) d q' gs la _ (HG15.out.up zg) hgl' (HH15.out.up zg) hla' HE.out).mono ?_
          rintro e w16 ⟨v16, rfl, hown, hb16⟩
          have Hg16 := Lib.hid (Holds.up (by have h := Hg15.out; exact zp4 : Holds _ (w2.heap.size) 24 #[.int .i64 err, .int .i64 miss, .slice G gs.length d]) hb16)
          have Hcc16 := Lib.hid (Holds.up (by have h := Hcc15.out; exact zp4 : Holds _ (w2.heap.size + 1) 27 #[.int .i64 full, .int .i64 emp, .slice (some ⟨E, oo, none⟩) la.length q']) hb16)
          have Hdc16 := Lib.hid (Holds.up (by have h := Hdc15.out; exact zp4 : Holds _ (w7.heap.size) 27 #[.int .i64 full, .int .i64 emp, .slice A2n13 ds2.length d2n13]) hb16)
          have Ha16 := Lib.hid (Holds.up (by have h := Ha15.out; exact zp4 : Holds _ (w11.heap.size) 76 #[.int .i64 0, .int .i64 0, .int .i64 0, .int .i64 0, .int .i64 0, .int .i64 0, .int .i64 0, .int .i64 0]) hb16)
          have Hb16 := Lib.hid (Holds.up (by have h := Hb15.out; exact zp4 : Holds _ (w12.heap.size) 76 #[.int .i64 0, .int .i64 0, .int .i64 0, .int .i64 0, .int .i64 0, .int .i64 0, .int .i64 0, .int .i64 0]) hb16)
          have HS16 : Hid (Below w15.heap.size w15 w16) := Lib.hid (Below.trans zg (hb16.mono (by first | exact Nat.le_refl _ | omega | (simp; done) | (simp; omega))))
          have HB16 : Hid (Below w.heap.size w w16) := Lib.hid (HB15.out.trans (HS16.out.mono hs15))
          have hs16 := HB16.out.size
          have hst16 := HS16.out.size
          have HG16 := Lib.hid (HG15.out.up HS16.out)
          have HH16 := Lib.hid (HH15.out.up HS16.out)
          have HD16 := Lib.hid (HD15.out.up HS16.out)
          clear hb16
          obtain ⟨A16, c16, e16, _⟩ := ints_of_row hown
          subst e16
          clear hown
          rw [← HCL1.out, HEC.out]
          clear kg0 kg1 kg2 lt_g kcc0 kcc1 kcc2 lt_cc
          obtain ⟨kg0, kg1, kg2⟩ := Hg16.out.c3
          have lt_g : w2.heap.size < w16.heap.size := Hg16.out.lt
          obtain ⟨kdc0, kdc1, kdc2⟩ := Hdc16.out.c3
          have lt_dc : w7.heap.size < w16.heap.size := Hdc16.out.lt
          go_wp2_with fail
          refine (Clash_ok err miss full emp G A2n13 d d2n13 gs ds2 _ (HG16.out.up zg) hgl' (HD16.out.up zg) hla2 HE2.out).mono ?_
          rintro e w17 ⟨v17, rfl, hown, hb17⟩
          have Hg17 := Lib.hid (Holds.up (by have h := Hg16.out; exact zp4 : Holds _ (w2.heap.size) 24 #[.int .i64 err, .int .i64 miss, .slice G gs.length d]) hb17)
          have Hcc17 := Lib.hid (Holds.up (by have h := Hcc16.out; exact zp4 : Holds _ (w2.heap.size + 1) 27 #[.int .i64 full, .int .i64 emp, .slice (some ⟨E, oo, none⟩) la.length q']) hb17)
          have Hdc17 := Lib.hid (Holds.up (by have h := Hdc16.out; exact zp4 : Holds _ (w7.heap.size) 27 #[.int .i64 full, .int .i64 emp, .slice A2n13 ds2.length d2n13]) hb17)
          have Ha17 := Lib.hid (Holds.up (by have h := Ha16.out; exact zp4 : Holds _ (w11.heap.size) 76 #[.int .i64 0, .int .i64 0, .int .i64 0, .int .i64 0, .int .i64 0, .int .i64 0, .int .i64 0, .int .i64 0]) hb17)
          have Hb17 := Lib.hid (Holds.up (by have h := Hb16.out; exact zp4 : Holds _ (w12.heap.size) 76 #[.int .i64 0, .int .i64 0, .int .i64 0, .int .i64 0, .int .i64 0, .int .i64 0, .int .i64 0, .int .i64 0]) hb17)
          have HS17 : Hid (Below w16.heap.size w16 w17) := Lib.hid (Below.trans zg (hb17.mono (by first | exact Nat.le_refl _ | omega | (simp; done) | (simp; omega))))
          have HB17 : Hid (Below w.heap.size w w17) := Lib.hid (HB16.out.trans (HS17.out.mono hs16))
          have hs17 := HB17.out.size
          have hst17 := HS17.out.size
          have HG17 := Lib.hid (HG16.out.up HS17.out)
          have HH17 := Lib.hid (HH16.out.up HS17.out)
          have HD17 := Lib.hid (HD16.out.up HS17.out)
          clear hb17
          obtain ⟨A17, c17, e17, _⟩ := ints_of_row hown
          subst e17
          clear hown
          rw [← HCL2.out, HEC.out]
          clear kg0 kg1 kg2 lt_g kdc0 kdc1 kdc2 lt_dc
          obtain ⟨kg0, kg1, kg2⟩ := Hg17.out.c3
          have lt_g : w2.heap.size < w17.heap.size := Hg17.out.lt
          obtain ⟨kcc0, kcc1, kcc2⟩ := Hcc17.out.c3
          have lt_cc : w2.heap.size + 1 < w17.heap.size := Hcc17.out.lt
          go_wp2_with fail
          refine (Topped_ok err miss full emp G (some ⟨E, oo, none⟩) d q' gs la _ (HG17.out.up zg) hgl' (HH17.out.up zg) hla' HE.out).mono ?_
          rw [← HTB1.out]
          rintro e w18 ⟨rfl, hb18⟩
          have Hg18 := Lib.hid (Holds.up (by have h := Hg17.out; exact zp4 : Holds _ (w2.heap.size) 24 #[.int .i64 err, .int .i64 miss, .slice G gs.length d]) hb18)
          have Hcc18 := Lib.hid (Holds.up (by have h := Hcc17.out; exact zp4 : Holds _ (w2.heap.size + 1) 27 #[.int .i64 full, .int .i64 emp, .slice (some ⟨E, oo, none⟩) la.length q']) hb18)
          have Hdc18 := Lib.hid (Holds.up (by have h := Hdc17.out; exact zp4 : Holds _ (w7.heap.size) 27 #[.int .i64 full, .int .i64 emp, .slice A2n13 ds2.length d2n13]) hb18)
          have Ha18 := Lib.hid (Holds.up (by have h := Ha17.out; exact zp4 : Holds _ (w11.heap.size) 76 #[.int .i64 0, .int .i64 0, .int .i64 0, .int .i64 0, .int .i64 0, .int .i64 0, .int .i64 0, .int .i64 0]) hb18)
          have Hb18 := Lib.hid (Holds.up (by have h := Hb17.out; exact zp4 : Holds _ (w12.heap.size) 76 #[.int .i64 0, .int .i64 0, .int .i64 0, .int .i64 0, .int .i64 0, .int .i64 0, .int .i64 0, .int .i64 0]) hb18)
          have HS18 : Hid (Below w17.heap.size w17 w18) := Lib.hid (Below.trans zg (hb18.mono (by first | exact Nat.le_refl _ | omega | (simp; done) | (simp; omega))))
          have HB18 : Hid (Below w.heap.size w w18) := Lib.hid (HB17.out.trans (HS18.out.mono hs17))
          have hs18 := HB18.out.size
          have hst18 := HS18.out.size
          have HG18 := Lib.hid (HG17.out.up HS18.out)
          have HH18 := Lib.hid (HH17.out.up HS18.out)
          have HD18 := Lib.hid (HD17.out.up HS18.out)
          clear hb18
          clear kg0 kg1 kg2 lt_g kcc0 kcc1 kcc2 lt_cc
          obtain ⟨kg0, kg1, kg2⟩ := Hg18.out.c3
          have lt_g : w2.heap.size < w18.heap.size := Hg18.out.lt
          obtain ⟨kdc0, kdc1, kdc2⟩ := Hdc18.out.c3
          have lt_dc : w7.heap.size < w18.heap.size := Hdc18.out.lt
          go_wp2_with fail
          refine (Topped_ok err miss full emp G A2n13 d d2n13 gs ds2 _ (HG18.out.up zg) hgl' (HD18.out.up zg) hla2 HE2.out).mono ?_
          rw [HTB2.out]
          rintro e w19 ⟨rfl, hb19⟩
          have Hg19 := Lib.hid (Holds.up (by have h := Hg18.out; exact zp4 : Holds _ (w2.heap.size) 24 #[.int .i64 err, .int .i64 miss, .slice G gs.length d]) hb19)
          have Hcc19 := Lib.hid (Holds.up (by have h := Hcc18.out; exact zp4 : Holds _ (w2.heap.size + 1) 27 #[.int .i64 full, .int .i64 emp, .slice (some ⟨E, oo, none⟩) la.length q']) hb19)
          have Hdc19 := Lib.hid (Holds.up (by have h := Hdc18.out; exact zp4 : Holds _ (w7.heap.size) 27 #[.int .i64 full, .int .i64 emp, .slice A2n13 ds2.length d2n13]) hb19)
          have Ha19 := Lib.hid (Holds.up (by have h := Ha18.out; exact zp4 : Holds _ (w11.heap.size) 76 #[.int .i64 0, .int .i64 0, .int .i64 0, .int .i64 0, .int .i64 0, .int .i64 0, .int .i64 0, .int .i64 0]) hb19)
          have Hb19 := Lib.hid (Holds.up (by have h := Hb18.out; exact zp4 : Holds _ (w12.heap.size) 76 #[.int .i64 0, .int .i64 0, .int .i64 0, .int .i64 0, .int .i64 0, .int .i64 0, .int .i64 0, .int .i64 0]) hb19)
          have HS19 : Hid (Below w18.heap.size w18 w19) := Lib.hid (Below.trans zg (hb19.mono (by first | exact Nat.le_refl _ | omega | (simp; done) | (simp; omega))))
          have HB19 : Hid (Below w.heap.size w w19) := Lib.hid (HB18.out.trans (HS19.out.mono hs18))
          have hs19 := HB19.out.size
          have hst19 := HS19.out.size
          have HG19 := Lib.hid (HG18.out.up HS19.out)
          have HH19 := Lib.hid (HH18.out.up HS19.out)
          have HD19 := Lib.hid (HD18.out.up HS19.out)
          clear hb19
          clear kg0 kg1 kg2 lt_g kdc0 kdc1 kdc2 lt_dc
          cases tb
          all_goals
           go_wp2_with fail
           refine (awake_any _).mono ?_
           rintro e' w40 ⟨rfl, hb40⟩
           go_wp2_with fail
           go_ret
           exact ⟨rfl, HB19.out.trans (hb40.mono hs19)⟩
      ·as_aux_lemma =>
        have hn0' : ¬ (0 : Int) < la.length := by omega
        obtain ⟨D2, e2, eD, _, hD2⟩ := OwnHands.at_ HDO.out
        rw [HDL.out] at eD
        cases eD
        have HDb0 := Lib.hid hD2
        clear hD2
        obtain ⟨wb, hwb⟩ : ∃ z, z = wa := ⟨_, rfl⟩
        rw [← hwb]
        have HUb : Hid (Below wr.heap.size wr wb) := Lib.hid (by rw [hwb]; exact HUa.out)
        have Hdcb : Hid (Holds wb (w7.heap.size) 27 #[.int .i64 full, .int .i64 emp, .slice D ds.length e]) := Lib.hid (by rw [hwb, HDL.out]; exact Hdca.out)
        have HDb : Hid (HandsAt wb D ds) := Lib.hid (by rw [hwb]; exact HDb0.out)
        have HM2 := HM
        have hds6 : ds.length ≤ 6 := by rw [HDL.out]; omega
        clear hwb
        have HBb := Lib.hid (HBr.out.trans (HUb.out.mono hsr))
        have hsb := HBb.out.size
        have hub := HUb.out.size
        have Hgb := Lib.hid (Hgr.out.up HUb.out)
        have Hccb : Hid (Holds wb (w2.heap.size + 1) 27 #[.int .i64 full, .int .i64 emp, .slice H' la.length q']) := Lib.hid (Hccr.out.up HUb.out)
        have HGb := Lib.hid (HGr.out.up HUb.out)
        have HHb := Lib.hid (HHr.out.up HUb.out)
        have hpos2 : ∀ x ∈ ds, 0 < x.sum := fun x hx => HPOS.out x ((HM2.out x).2 hx)
        have hbe2 : bothErr err miss gs full emp ds = 0 := by unfold bothErr; rw [(bothErr_zero HE.out).1, cart_zero hds6 (by omega) (by omega) (by omega) (by omega) (fun x hx => HTE.out x ((HM2.out x).2 hx))]; simp
        have HE2 := Lib.hid hbe2
        have HPOS2 := Lib.hid hpos2
        have hla2 : ds.length ≤ 1000 := by omega
        have hbs := bounds_same (miss := miss) HPOS.out HPOS2.out HM2.out
        have hcl := clash_len (miss := miss) HPOS.out HPOS2.out HM2.out
        have htp := topped_same (miss := miss) HPOS.out HPOS2.out HM2.out
        obtain ⟨tb, htb⟩ : ∃ z, z = toppedOf miss la := ⟨_, rfl⟩
        rw [← htb] at htp
        obtain ⟨ln, hln⟩ : ∃ z, z = (clashOf miss la).length := ⟨_, rfl⟩
        rw [← hln] at hcl
        have HCL1 := Lib.hid hln
        have HCL2 := Lib.hid hcl
        have HTB1 := Lib.hid htb
        have HTB2 := Lib.hid htp
        clear hpos2 hbe2 hcl htp htb hln
        cases hem : (boundsOf miss (fun _ => true) la).empty with
        | false =>
         as_aux_lemma =>
          obtain ⟨hbe, hbb⟩ := hbs
          rw [hem] at hbe
          have HEM := Lib.hid hem
          have HEM2 := Lib.hid hbe.symm
          obtain ⟨B, hBx⟩ : ∃ z, boundsOf miss (fun _ => true) la = z := ⟨_, rfl⟩
          have hb2 := hbb hem
          rw [hBx] at hb2
          have HBX := Lib.hid hBx
          have HBX2 := Lib.hid hb2.symm
          have hne := neq_spans B
          obtain ⟨cn, hcn⟩ : ∃ z, z = canOf B gs := ⟨_, rfl⟩
          have HCN := Lib.hid hcn
          have hcnl : cn.length ≤ 1000 := by rw [hcn]; have := can_len B gs; omega
          clear hcn hb2 hBx
          clear hem hbe hbb
          obtain ⟨kg0, kg1, kg2⟩ := Hgb.out.c3
          have lt_g : w2.heap.size < wb.heap.size := Hgb.out.lt
          obtain ⟨kcc0, kcc1, kcc2⟩ := Hccb.out.c3
          have lt_cc : w2.heap.size + 1 < wb.heap.size := Hccb.out.lt
          go_wp2_with fail
          refine (Bounds_ok err miss full emp G H' d q' gs la _ (HGb.out.up zg) hgl' (HHb.out.up zg) hla' HE.out HEM.out).mono ?_
          rw [HBX.out]
          rintro e w11 ⟨rfl, hb11⟩
          have Hg11 := Lib.hid (Holds.up (by have h := Hgb.out; exact zp4 : Holds _ (w2.heap.size) 24 #[.int .i64 err, .int .i64 miss, .slice G gs.length d]) hb11)
          have Hcc11 := Lib.hid (Holds.up (by have h := Hccb.out; exact zp4 : Holds _ (w2.heap.size + 1) 27 #[.int .i64 full, .int .i64 emp, .slice H' la.length q']) hb11)
          have Hdc11 := Lib.hid (Holds.up (by have h := Hdcb.out; exact zp4 : Holds _ (w7.heap.size) 27 #[.int .i64 full, .int .i64 emp, .slice D ds.length e]) hb11)
          have HS11 : Hid (Below wb.heap.size wb w11) := Lib.hid (Below.trans zg (hb11.mono (by first | exact Nat.le_refl _ | omega | (simp; done) | (simp; omega))))
          have HB11 : Hid (Below w.heap.size w w11) := Lib.hid (HBb.out.trans (HS11.out.mono hsb))
          have hs11 := HB11.out.size
          have hst11 := HS11.out.size
          have HG11 := Lib.hid (HGb.out.up HS11.out)
          have HH11 := Lib.hid (HHb.out.up HS11.out)
          have HD11 := Lib.hid (HDb.out.up HS11.out)
          clear hb11
          clear kg0 kg1 kg2 lt_g kcc0 kcc1 kcc2 lt_cc
          obtain ⟨kg0, kg1, kg2⟩ := Hg11.out.c3
          have lt_g : w2.heap.size < w11.heap.size := Hg11.out.lt
          obtain ⟨kdc0, kdc1, kdc2⟩ := Hdc11.out.c3
          have lt_dc : w7.heap.size < w11.heap.size := Hdc11.out.lt
          go_wp2_with fail
          refine (Bounds_ok err miss full emp G D d e gs ds _ (HG11.out.up zg) hgl' (HD11.out.up zg) hla2 HE2.out HEM2.out).mono ?_
          rw [HBX2.out]
          rintro e w12 ⟨rfl, hb12⟩
          have Hg12 := Lib.hid (Holds.up (by have h := Hg11.out; exact zp4 : Holds _ (w2.heap.size) 24 #[.int .i64 err, .int .i64 miss, .slice G gs.length d]) hb12)
          have Hcc12 := Lib.hid (Holds.up (by have h := Hcc11.out; exact zp4 : Holds _ (w2.heap.size + 1) 27 #[.int .i64 full, .int .i64 emp, .slice H' la.length q']) hb12)
          have Hdc12 := Lib.hid (Holds.up (by have h := Hdc11.out; exact zp4 : Holds _ (w7.heap.size) 27 #[.int .i64 full, .int .i64 emp, .slice D ds.length e]) hb12)
          have Ha12 := Lib.hid (Holds.up (zp4 : Holds _ (w11.heap.size) 76 #[.int .i64 B.l0, .int .i64 B.h0, .int .i64 B.l1, .int .i64 B.h1, .int .i64 B.l2, .int .i64 B.h2, .int .i64 B.l3, .int .i64 B.h3]) hb12)
          have HS12 : Hid (Below w11.heap.size w11 w12) := Lib.hid (Below.trans zg (hb12.mono (by first | exact Nat.le_refl _ | omega | (simp; done) | (simp; omega))))
          have HB12 : Hid (Below w.heap.size w w12) := Lib.hid (HB11.out.trans (HS12.out.mono hs11))
          have hs12 := HB12.out.size
          have hst12 := HS12.out.size
          have HG12 := Lib.hid (HG11.out.up HS12.out)
          have HH12 := Lib.hid (HH11.out.up HS12.out)
          have HD12 := Lib.hid (HD11.out.up HS12.out)
          clear hb12
          clear kg0 kg1 kg2 lt_g kdc0 kdc1 kdc2 lt_dc
          obtain ⟨kg0, kg1, kg2⟩ := Hg12.out.c3
          have lt_g : w2.heap.size < w12.heap.size := Hg12.out.lt
          obtain ⟨kcc0, kcc1, kcc2⟩ := Hcc12.out.c3
          have lt_cc : w2.heap.size + 1 < w12.heap.size := Hcc12.out.lt
          go_wp2_with fail
          refine (Can_ok err miss full emp G H' d q' gs la _ (HG12.out.up zg) hgl' hgd (HH12.out.up zg) hla' HE.out HEM.out).mono ?_
          rintro e w13 ⟨v13, rfl, hown, hb13⟩
          have Hg13 := Lib.hid (Holds.up (by have h := Hg12.out; exact zp4 : Holds _ (w2.heap.size) 24 #[.int .i64 err, .int .i64 miss, .slice G gs.length d]) hb13)
          have Hcc13 := Lib.hid (Holds.up (by have h := Hcc12.out; exact zp4 : Holds _ (w2.heap.size + 1) 27 #[.int .i64 full, .int .i64 emp, .slice H' la.length q']) hb13)
          have Hdc13 := Lib.hid (Holds.up (by have h := Hdc12.out; exact zp4 : Holds _ (w7.heap.size) 27 #[.int .i64 full, .int .i64 emp, .slice D ds.length e]) hb13)
          have Ha13 := Lib.hid (Holds.up (by have h := Ha12.out; exact zp4 : Holds _ (w11.heap.size) 76 #[.int .i64 B.l0, .int .i64 B.h0, .int .i64 B.l1, .int .i64 B.h1, .int .i64 B.l2, .int .i64 B.h2, .int .i64 B.l3, .int .i64 B.h3]) hb13)
          have Hb13 := Lib.hid (Holds.up (zp4 : Holds _ (w12.heap.size) 76 #[.int .i64 B.l0, .int .i64 B.h0, .int .i64 B.l1, .int .i64 B.h1, .int .i64 B.l2, .int .i64 B.h2, .int .i64 B.l3, .int .i64 B.h3]) hb13)
          have HS13 : Hid (Below w12.heap.size w12 w13) := Lib.hid (Below.trans zg (hb13.mono (by first | exact Nat.le_refl _ | omega | (simp; done) | (simp; omega))))
          have HB13 : Hid (Below w.heap.size w w13) := Lib.hid (HB12.out.trans (HS13.out.mono hs12))
          have hs13 := HB13.out.size
          have hst13 := HS13.out.size
          have HG13 := Lib.hid (HG12.out.up HS13.out)
          have HH13 := Lib.hid (HH12.out.up HS13.out)
          have HD13 := Lib.hid (HD12.out.up HS13.out)
          clear hb13
          rw [HBX.out, ← HCN.out] at hown
          obtain ⟨A13, c13, e13, hi13⟩ := ints_of_row hown
          subst e13
          have HI13 := Lib.hid hi13
          clear hown hi13
          clear kg0 kg1 kg2 lt_g kcc0 kcc1 kcc2 lt_cc
          obtain ⟨kg0, kg1, kg2⟩ := Hg13.out.c3
          have lt_g : w2.heap.size < w13.heap.size := Hg13.out.lt
          obtain ⟨kdc0, kdc1, kdc2⟩ := Hdc13.out.c3
          have lt_dc : w7.heap.size < w13.heap.size := Hdc13.out.lt
          go_wp2_with fail
          refine (Can_ok err miss full emp G D d e gs ds _ (HG13.out.up zg) hgl' hgd (HD13.out.up zg) hla2 HE2.out HEM2.out).mono ?_
          rintro e w14 ⟨v14, rfl, hown, hb14⟩
          have Hg14 := Lib.hid (Holds.up (by have h := Hg13.out; exact zp4 : Holds _ (w2.heap.size) 24 #[.int .i64 err, .int .i64 miss, .slice G gs.length d]) hb14)
          have Hcc14 := Lib.hid (Holds.up (by have h := Hcc13.out; exact zp4 : Holds _ (w2.heap.size + 1) 27 #[.int .i64 full, .int .i64 emp, .slice H' la.length q']) hb14)
          have Hdc14 := Lib.hid (Holds.up (by have h := Hdc13.out; exact zp4 : Holds _ (w7.heap.size) 27 #[.int .i64 full, .int .i64 emp, .slice D ds.length e]) hb14)
          have Ha14 := Lib.hid (Holds.up (by have h := Ha13.out; exact zp4 : Holds _ (w11.heap.size) 76 #[.int .i64 B.l0, .int .i64 B.h0, .int .i64 B.l1, .int .i64 B.h1, .int .i64 B.l2, .int .i64 B.h2, .int .i64 B.l3, .int .i64 B.h3]) hb14)
          have Hb14 := Lib.hid (Holds.up (by have h := Hb13.out; exact zp4 : Holds _ (w12.heap.size) 76 #[.int .i64 B.l0, .int .i64 B.h0, .int .i64 B.l1, .int .i64 B.h1, .int .i64 B.l2, .int .i64 B.h2, .int .i64 B.l3, .int .i64 B.h3]) hb14)
          have HS14 : Hid (Below w13.heap.size w13 w14) := Lib.hid (Below.trans zg (hb14.mono (by first | exact Nat.le_refl _ | omega | (simp; done) | (simp; omega))))
          have HB14 : Hid (Below w.heap.size w w14) := Lib.hid (HB13.out.trans (HS14.out.mono hs13))
          have hs14 := HB14.out.size
          have hst14 := HS14.out.size
          have HG14 := Lib.hid (HG13.out.up HS14.out)
          have HH14 := Lib.hid (HH13.out.up HS14.out)
          have HD14 := Lib.hid (HD13.out.up HS14.out)
          have HI14 := Lib.hid (HI13.out.up HS14.out)
          clear hb14
          rw [HBX2.out, ← HCN.out] at hown
          obtain ⟨A14, c14, e14, hi14⟩ := ints_of_row hown
          subst e14
          have HJ14 := Lib.hid hi14
          clear hown hi14
          clear kg0 kg1 kg2 lt_g kdc0 kdc1 kdc2 lt_dc
          obtain ⟨ka0, ka1, ka2, ka3, ka4, ka5, ka6, ka7⟩ := Ha14.out.c8
          have lt_a : w11.heap.size < w14.heap.size := Ha14.out.lt
          obtain ⟨kb0, kb1, kb2, kb3, kb4, kb5, kb6, kb7⟩ := Hb14.out.c8
          have lt_b : w12.heap.size < w14.heap.size := Hb14.out.lt
          go_wp2_with fail
          refine (EqualInt_eq A13 A14 c13 c14 cn cn _ (HI14.out.up zg) (HJ14.out.up zg) rfl (by omega)).mono ?_
          rw [beq_self_eq_true]
          rintro e w15 ⟨rfl, hb15⟩
          have Hg15 := Lib.hid (Holds.up (by have h := Hg14.out; exact zp4 : Holds _ (w2.heap.size) 24 #[.int .i64 err, .int .i64 miss, .slice G gs.length d]) hb15)
          have Hcc15 := Lib.hid (Holds.up (by have h := Hcc14.out; exact zp4 : Holds _ (w2.heap.size + 1) 27 #[.int .i64 full, .int .i64 emp, .slice H' la.length q']) hb15)
          have Hdc15 := Lib.hid (Holds.up (by have h := Hdc14.out; exact zp4 : Holds _ (w7.heap.size) 27 #[.int .i64 full, .int .i64 emp, .slice D ds.length e]) hb15)
          have Ha15 := Lib.hid (Holds.up (by have h := Ha14.out; exact zp4 : Holds _ (w11.heap.size) 76 #[.int .i64 B.l0, .int .i64 B.h0, .int .i64 B.l1, .int .i64 B.h1, .int .i64 B.l2, .int .i64 B.h2, .int .i64 B.l3, .int .i64 B.h3]) hb15)
          have Hb15 := Lib.hid (Holds.up (by have h := Hb14.out; exact zp4 : Holds _ (w12.heap.size) 76 #[.int .i64 B.l0, .int .i64 B.h0, .int .i64 B.l1, .int .i64 B.h1, .int .i64 B.l2, .int .i64 B.h2, .int .i64 B.l3, .int .i64 B.h3]) hb15)
          have HS15 : Hid (Below w14.heap.size w14 w15) := Lib.hid (Below.trans zg (hb15.mono (by first | exact Nat.le_refl _ | omega | (simp; done) | (simp; omega))))
          have HB15 : Hid (Below w.heap.size w w15) := Lib.hid (HB14.out.trans (HS15.out.mono hs14))
          have hs15 := HB15.out.size
          have hst15 := HS15.out.size
          have HG15 := Lib.hid (HG14.out.up HS15.out)
          have HH15 := Lib.hid (HH14.out.up HS15.out)
          have HD15 := Lib.hid (HD14.out.up HS15.out)
          have HI15 := Lib.hid (HI14.out.up HS15.out)
          clear hb15
          clear ka0 ka1 ka2 ka3 ka4 ka5 ka6 ka7 lt_a kb0 kb1 kb2 kb3 kb4 kb5 kb6 kb7 lt_b
          obtain ⟨kg0, kg1, kg2⟩ := Hg15.out.c3
          have lt_g : w2.heap.size < w15.heap.size := Hg15.out.lt
          obtain ⟨kcc0, kcc1, kcc2⟩ := Hcc15.out.c3
          have lt_cc : w2.heap.size + 1 < w15.heap.size := Hcc15.out.lt
          have hec : (if ln = 0 then (6 : Int) else 0) = 6 := if_pos (by rw [HCL1.out, clash_no HPOS.out HEM.out]; rfl)
          have HEC := Lib.hid hec
          clear hec
          have hln4 : ln ≤ 6 := by rw [HCL1.out]; rw [clash_no HPOS.out HEM.out]; decide
          go_wp2_with fail
          refine (Clash_ok err miss full emp G H' d q' gs la _ (HG15.out.up zg) hgl' (HH15.out.up zg) hla' HE.out).mono ?_
          rintro e w16 ⟨v16, rfl, hown, hb16⟩
          have Hg16 := Lib.hid (Holds.up (by have h := Hg15.out; exact zp4 : Holds _ (w2.heap.size) 24 #[.int .i64 err, .int .i64 miss, .slice G gs.length d]) hb16)
          have Hcc16 := Lib.hid (Holds.up (by have h := Hcc15.out; exact zp4 : Holds _ (w2.heap.size + 1) 27 #[.int .i64 full, .int .i64 emp, .slice H' la.length q']) hb16)
          have Hdc16 := Lib.hid (Holds.up (by have h := Hdc15.out; exact zp4 : Holds _ (w7.heap.size) 27 #[.int .i64 full, .int .i64 emp, .slice D ds.length e]) hb16)
          have Ha16 := Lib.hid (Holds.up (by have h := Ha15.out; exact zp4 : Holds _ (w11.heap.size) 76 #[.int .i64 B.l0, .int .i64 B.h0, .int .i64 B.l1, .int .i64 B.h1, .int .i64 B.l2, .int .i64 B.h2, .int .i64 B.l3, .int .i64 B.h3]) hb16)
          have Hb16 := Lib.hid (Holds.up (by have h := Hb15.out; exact zp4 : Holds _ (w12.heap.size) 76 #[.int .i64 B.l0, .int .i64 B.h0, .int .i64 B.l1, .int .i64 B.h1, .int .i64 B.l2, .int .i64 B.h2, .int .i64 B.l3, .int .i64 B.h3]) hb16)
          have HS16 : Hid (Below w15.heap.size w15 w16) := Lib.hid (Below.trans zg (hb16.mono (by first | exact Nat.le_refl _ | omega | (simp; done) | (simp; omega))))
          have HB16 : Hid (Below w.heap.size w w16) := Lib.hid (HB15.out.trans (HS16.out.mono hs15))
          have hs16 := HB16.out.size
          have hst16 := HS16.out.size
          have HG16 := Lib.hid (HG15.out.up HS16.out)
          have HH16 := Lib.hid (HH15.out.up HS16.out)
          have HD16 := Lib.hid (HD15.out.up HS16.out)
          clear hb16
          obtain ⟨A16, c16, e16, _⟩ := ints_of_row hown
          subst e16
          clear hown
          rw [← HCL1.out, HEC.out]
          clear kg0 kg1 kg2 lt_g kcc0 kcc1 kcc2 lt_cc
          obtain ⟨kg0, kg1, kg2⟩ := Hg16.out.c3
          have lt_g : w2.heap.size < w16.heap.size := Hg16.out.lt
          obtain ⟨kdc0, kdc1, kdc2⟩ := Hdc16.out.c3
          have lt_dc : w7.heap.size < w16.heap.size := Hdc16.out.lt
          go_wp2_with fail
          refine (Clash_ok err miss full emp G D d e gs ds _ (HG16.out.up zg) hgl' (HD16.out.up zg) hla2 HE2.out).mono ?_
          rintro e w17 ⟨v17, rfl, hown, hb17⟩
          have Hg17 := Lib.hid (Holds.up (by have h := Hg16.out; exact zp4 : Holds _ (w2.heap.size) 24 #[.int .i64 err, .int .i64 miss, .slice G gs.length d]) hb17)
          have Hcc17 := Lib.hid (Holds.up (by have h := Hcc16.out; exact zp4 : Holds _ (w2.heap.size + 1) 27 #[.int .i64 full, .int .i64 emp, .slice H' la.length q']) hb17)
          have Hdc17 := Lib.hid (Holds.up (by have h := Hdc16.out; exact zp4 : Holds _ (w7.heap.size) 27 #[.int .i64 full, .int .i64 emp, .slice D ds.length e]) hb17)
          have Ha17 := Lib.hid (Holds.up (by have h := Ha16.out; exact zp4 : Holds _ (w11.heap.size) 76 #[.int .i64 B.l0, .int .i64 B.h0, .int .i64 B.l1, .int .i64 B.h1, .int .i64 B.l2, .int .i64 B.h2, .int .i64 B.l3, .int .i64 B.h3]) hb17)
          have Hb17 := Lib.hid (Holds.up (by have h := Hb16.out; exact zp4 : Holds _ (w12.heap.size) 76 #[.int .i64 B.l0, .int .i64 B.h0, .int .i64 B.l1, .int .i64 B.h1, .int .i64 B.l2, .int .i64 B.h2, .int .i64 B.l3, .int .i64 B.h3]) hb17)
          have HS17 : Hid (Below w16.heap.size w16 w17) := Lib.hid (Below.trans zg (hb17.mono (by first | exact Nat.le_refl _ | omega | (simp; done) | (simp; omega))))
          have HB17 : Hid (Below w.heap.size w w17) := Lib.hid (HB16.out.trans (HS17.out.mono hs16))
          have hs17 := HB17.out.size
          have hst17 := HS17.out.size
          have HG17 := Lib.hid (HG16.out.up HS17.out)
          have HH17 := Lib.hid (HH16.out.up HS17.out)
          have HD17 := Lib.hid (HD16.out.up HS17.out)
          clear hb17
          obtain ⟨A17, c17, e17, _⟩ := ints_of_row hown
          subst e17
          clear hown
          rw [← HCL2.out, HEC.out]
          clear kg0 kg1 kg2 lt_g kdc0 kdc1 kdc2 lt_dc
          obtain ⟨kg0, kg1, kg2⟩ := Hg17.out.c3
          have lt_g : w2.heap.size < w17.heap.size := Hg17.out.lt
          obtain ⟨kcc0, kcc1, kcc2⟩ := Hcc17.out.c3
          have lt_cc : w2.heap.size + 1 < w17.heap.size := Hcc17.out.lt
          go_wp2_with fail
          refine (Topped_ok err miss full emp G H' d q' gs la _ (HG17.out.up zg) hgl' (HH17.out.up zg) hla' HE.out).mono ?_
          rw [← HTB1.out]
          rintro e w18 ⟨rfl, hb18⟩
          have Hg18 := Lib.hid (Holds.up (by have h := Hg17.out; exact zp4 : Holds _ (w2.heap.size) 24 #[.int .i64 err, .int .i64 miss, .slice G gs.length d]) hb18)
          have Hcc18 := Lib.hid (Holds.up (by have h := Hcc17.out; exact zp4 : Holds _ (w2.heap.size + 1) 27 #[.int .i64 full, .int .i64 emp, .slice H' la.length q']) hb18)
          have Hdc18 := Lib.hid (Holds.up (by have h := Hdc17.out; exact zp4 : Holds _ (w7.heap.size) 27 #[.int .i64 full, .int .i64 emp, .slice D ds.length e]) hb18)
          have Ha18 := Lib.hid (Holds.up (by have h := Ha17.out; exact zp4 : Holds _ (w11.heap.size) 76 #[.int .i64 B.l0, .int .i64 B.h0, .int .i64 B.l1, .int .i64 B.h1, .int .i64 B.l2, .int .i64 B.h2, .int .i64 B.l3, .int .i64 B.h3]) hb18)
          have Hb18 := Lib.hid (Holds.up (by have h := Hb17.out; exact zp4 : Holds _ (w12.heap.size) 76 #[.int .i64 B.l0, .int .i64 B.h0, .int .i64 B.l1, .int .i64 B.h1, .int .i64 B.l2, .int .i64 B.h2, .int .i64 B.l3, .int .i64 B.h3]) hb18)
          have HS18 : Hid (Below w17.heap.size w17 w18) := Lib.hid (Below.trans zg (hb18.mono (by first | exact Nat.le_refl _ | omega | (simp; done) | (simp; omega))))
          have HB18 : Hid (Below w.heap.size w w18) := Lib.hid (HB17.out.trans (HS18.out.mono hs17))
          have hs18 := HB18.out.size
          have hst18 := HS18.out.size
          have HG18 := Lib.hid (HG17.out.up HS18.out)
          have HH18 := Lib.hid (HH17.out.up HS18.out)
          have HD18 := Lib.hid (HD17.out.up HS18.out)
          clear hb18
          clear kg0 kg1 kg2 lt_g kcc0 kcc1 kcc2 lt_cc
          obtain ⟨kg0, kg1, kg2⟩ := Hg18.out.c3
          have lt_g : w2.heap.size < w18.heap.size := Hg18.out.lt
          obtain ⟨kdc0, kdc1, kdc2⟩ := Hdc18.out.c3
          have lt_dc : w7.heap.size < w18.heap.size := Hdc18.out.lt
          go_wp2_with fail
          refine (Topped_ok err miss full emp G D d e gs ds _ (HG18.out.up zg) hgl' (HD18.out.up zg) hla2 HE2.out).mono ?_
          rw [HTB2.out]
          rintro e w19 ⟨rfl, hb19⟩
          have Hg19 := Lib.hid (Holds.up (by have h := Hg18.out; exact zp4 : Holds _ (w2.heap.size) 24 #[.int .i64 err, .int .i64 miss, .slice G gs.length d]) hb19)
          have Hcc19 := Lib.hid (Holds.up (by have h := Hcc18.out; exact zp4 : Holds _ (w2.heap.size + 1) 27 #[.int .i64 full, .int .i64 emp, .slice H' la.length q']) hb19)
          have Hdc19 := Lib.hid (Holds.up (by have h := Hdc18.out; exact zp4 : Holds _ (w7.heap.size) 27 #[.int .i64 full, .int .i64 emp, .slice D ds.length e]) hb19)
          have Ha19 := Lib.hid (Holds.up (by have h := Ha18.out; exact zp4 : Holds _ (w11.heap.size) 76 #[.int .i64 B.l0, .int .i64 B.h0, .int .i64 B.l1, .int .i64 B.h1, .int .i64 B.l2, .int .i64 B.h2, .int .i64 B.l3, .int .i64 B.h3]) hb19)
          have Hb19 := Lib.hid (Holds.up (by have h := Hb18.out; exact zp4 : Holds _ (w12.heap.size) 76 #[.int .i64 B.l0, .int .i64 B.h0, .int .i64 B.l1, .int .i64 B.h1, .int .i64 B.l2, .int .i64 B.h2, .int .i64 B.l3, .int .i64 B.h3]) hb19)
          have HS19 : Hid (Below w18.heap.size w18 w19) := Lib.hid (Below.trans zg (hb19.mono (by first | exact Nat.le_refl _ | omega | (simp; done) | (simp; omega))))
          have HB19 : Hid (Below w.heap.size w w19) := Lib.hid (HB18.out.trans (HS19.out.mono hs18))
          have hs19 := HB19.out.size
          have hst19 := HS19.out.size
          have HG19 := Lib.hid (HG18.out.up HS19.out)
          have HH19 := Lib.hid (HH18.out.up HS19.out)
          have HD19 := Lib.hid (HD18.out.up HS19.out)
          clear hb19
          clear kg0 kg1 kg2 lt_g kdc0 kdc1 kdc2 lt_dc
          cases tb
          all_goals
           go_wp2_with fail
           refine (awake_any _).mono ?_
           rintro e' w40 ⟨rfl, hb40⟩
           go_wp2_with fail
           go_ret
           exact ⟨rfl, HB19.out.trans (hb40.mono hs19)⟩
        | true =>
         as_aux_lemma =>
          obtain ⟨hbe, hbb⟩ := hbs
          rw [hem] at hbe
          have HEM := Lib.hid hem
          have HEM2 := Lib.hid hbe.symm
          have hne := neq_zero
          clear hem hbe hbb
          obtain ⟨kg0, kg1, kg2⟩ := Hgb.out.c3
          have lt_g : w2.heap.size < wb.heap.size := Hgb.out.lt
          obtain ⟨kcc0, kcc1, kcc2⟩ := Hccb.out.c3
          have lt_cc : w2.heap.size + 1 < wb.heap.size := Hccb.out.lt
          go_wp2_with fail
          refine (Bounds_clash err miss full emp G H' d q' gs la _ (HGb.out.up zg) hgl' (HHb.out.up zg) hla' HE.out HEM.out).mono ?_
          rintro e w11 ⟨rfl, hb11⟩
          have Hg11 := Lib.hid (Holds.up (by have h := Hgb.out; exact zp4 : Holds _ (w2.heap.size) 24 #[.int .i64 err, .int .i64 miss, .slice G gs.length d]) hb11)
          have Hcc11 := Lib.hid (Holds.up (by have h := Hccb.out; exact zp4 : Holds _ (w2.heap.size + 1) 27 #[.int .i64 full, .int .i64 emp, .slice H' la.length q']) hb11)
          have Hdc11 := Lib.hid (Holds.up (by have h := Hdcb.out; exact zp4 : Holds _ (w7.heap.size) 27 #[.int .i64 full, .int .i64 emp, .slice D ds.length e]) hb11)
          have HS11 : Hid (Below wb.heap.size wb w11) := Lib.hid (Below.trans zg (hb11.mono (by first | exact Nat.le_refl _ | omega | (simp; done) | (simp; omega))))
          have HB11 : Hid (Below w.heap.size w w11) := Lib.hid (HBb.out.trans (HS11.out.mono hsb))
          have hs11 := HB11.out.size
          have hst11 := HS11.out.size
          have HG11 := Lib.hid (HGb.out.up HS11.out)
          have HH11 := Lib.hid (HHb.out.up HS11.out)
          have HD11 := Lib.hid (HDb.out.up HS11.out)
          clear hb11
          clear kg0 kg1 kg2 lt_g kcc0 kcc1 kcc2 lt_cc
          obtain ⟨kg0, kg1, kg2⟩ := Hg11.out.c3
          have lt_g : w2.heap.size < w11.heap.size := Hg11.out.lt
          obtain ⟨kdc0, kdc1, kdc2⟩ := Hdc11.out.c3
          have lt_dc : w7.heap.size < w11.heap.size := Hdc11.out.lt
          go_wp2_with fail
          refine (Bounds_clash err miss full emp G D d e gs ds _ (HG11.out.up zg) hgl' (HD11.out.up zg) hla2 HE2.out HEM2.out).mono ?_
          rintro e w12 ⟨rfl, hb12⟩
          have Hg12 := Lib.hid (Holds.up (by have h := Hg11.out; exact zp4 : Holds _ (w2.heap.size) 24 #[.int .i64 err, .int .i64 miss, .slice G gs.length d]) hb12)
          have Hcc12 := Lib.hid (Holds.up (by have h := Hcc11.out; exact zp4 : Holds _ (w2.heap.size + 1) 27 #[.int .i64 full, .int .i64 emp, .slice H' la.length q']) hb12)
          have Hdc12 := Lib.hid (Holds.up (by have h := Hdc11.out; exact zp4 : Holds _ (w7.heap.size) 27 #[.int .i64 full, .int .i64 emp, .slice D ds.length e]) hb12)
          have Ha12 := Lib.hid (Holds.up (zp4 : Holds _ (w11.heap.size) 76 #[.int .i64 0, .int .i64 0, .int .i64 0, .int .i64 0, .int .i64 0, .int .i64 0, .int .i64 0, .int .i64 0]) hb12)
          have HS12 : Hid (Below w11.heap.size w11 w12) := Lib.hid (Below.trans zg (hb12.mono (by first | exact Nat.le_refl _ | omega | (simp; done) | (simp; omega))))
          have HB12 : Hid (Below w.heap.size w w12) := Lib.hid (HB11.out.trans (HS12.out.mono hs11))
          have hs12 := HB12.out.size
          have hst12 := HS12.out.size
          have HG12 := Lib.hid (HG11.out.up HS12.out)
          have HH12 := Lib.hid (HH11.out.up HS12.out)
          have HD12 := Lib.hid (HD11.out.up HS12.out)
          clear hb12
          clear kg0 kg1 kg2 lt_g kdc0 kdc1 kdc2 lt_dc
          obtain ⟨kg0, kg1, kg2⟩ := Hg12.out.c3
          have lt_g : w2.heap.size < w12.heap.size := Hg12.out.lt
          obtain ⟨kcc0, kcc1, kcc2⟩ := Hcc12.out.c3
          have lt_cc : w2.heap.size + 1 < w12.heap.size := Hcc12.out.lt
          go_wp2_with fail
          refine (Can_clash err miss full emp G H' d q' gs la _ (HG12.out.up zg) hgl' hgd (HH12.out.up zg) hla' HE.out HEM.out).mono ?_
          rintro e w13 ⟨rfl, hb13⟩
          have Hg13 := Lib.hid (Holds.up (by have h := Hg12.out; exact zp4 : Holds _ (w2.heap.size) 24 #[.int .i64 err, .int .i64 miss, .slice G gs.length d]) hb13)
          have Hcc13 := Lib.hid (Holds.up (by have h := Hcc12.out; exact zp4 : Holds _ (w2.heap.size + 1) 27 #[.int .i64 full, .int .i64 emp, .slice H' la.length q']) hb13)
          have Hdc13 := Lib.hid (Holds.up (by have h := Hdc12.out; exact zp4 : Holds _ (w7.heap.size) 27 #[.int .i64 full, .int .i64 emp, .slice D ds.length e]) hb13)
          have Ha13 := Lib.hid (Holds.up (by have h := Ha12.out; exact zp4 : Holds _ (w11.heap.size) 76 #[.int .i64 0, .int .i64 0, .int .i64 0, .int .i64 0, .int .i64 0, .int .i64 0, .int .i64 0, .int .i64 0]) hb13)
          have Hb13 := Lib.hid (Holds.up (zp4 : Holds _ (w12.heap.size) 76 #[.int .i64 0, .int .i64 0, .int .i64 0, .int .i64 0, .int .i64 0, .int .i64 0, .int .i64 0, .int .i64 0]) hb13)
          have HS13 : Hid (Below w12.heap.size w12 w13) := Lib.hid (Below.trans zg (hb13.mono (by first | exact Nat.le_refl _ | omega | (simp; done) | (simp; omega))))
          have HB13 : Hid (Below w.heap.size w w13) := Lib.hid (HB12.out.trans (HS13.out.mono hs12))
          have hs13 := HB13.out.size
          have hst13 := HS13.out.size
          have HG13 := Lib.hid (HG12.out.up HS13.out)
          have HH13 := Lib.hid (HH12.out.up HS13.out)
          have HD13 := Lib.hid (HD12.out.up HS13.out)
          clear hb13
          clear kg0 kg1 kg2 lt_g kcc0 kcc1 kcc2 lt_cc
          obtain ⟨kg0, kg1, kg2⟩ := Hg13.out.c3
          have lt_g : w2.heap.size < w13.heap.size := Hg13.out.lt
          obtain ⟨kdc0, kdc1, kdc2⟩ := Hdc13.out.c3
          have lt_dc : w7.heap.size < w13.heap.size := Hdc13.out.lt
          go_wp2_with fail
          refine (Can_clash err miss full emp G D d e gs ds _ (HG13.out.up zg) hgl' hgd (HD13.out.up zg) hla2 HE2.out HEM2.out).mono ?_
          rintro e w14 ⟨rfl, hb14⟩
          have Hg14 := Lib.hid (Holds.up (by have h := Hg13.out; exact zp4 : Holds _ (w2.heap.size) 24 #[.int .i64 err, .int .i64 miss, .slice G gs.length d]) hb14)
          have Hcc14 := Lib.hid (Holds.up (by have h := Hcc13.out; exact zp4 : Holds _ (w2.heap.size + 1) 27 #[.int .i64 full, .int .i64 emp, .slice H' la.length q']) hb14)
          have Hdc14 := Lib.hid (Holds.up (by have h := Hdc13.out; exact zp4 : Holds _ (w7.heap.size) 27 #[.int .i64 full, .int .i64 emp, .slice D ds.length e]) hb14)
          have Ha14 := Lib.hid (Holds.up (by have h := Ha13.out; exact zp4 : Holds _ (w11.heap.size) 76 #[.int .i64 0, .int .i64 0, .int .i64 0, .int .i64 0, .int .i64 0, .int .i64 0, .int .i64 0, .int .i64 0]) hb14)
          have Hb14 := Lib.hid (Holds.up (by have h := Hb13.out; exact zp4 : Holds _ (w12.heap.size) 76 #[.int .i64 0, .int .i64 0, .int .i64 0, .int .i64 0, .int .i64 0, .int .i64 0, .int .i64 0, .int .i64 0]) hb14)
          have HS14 : Hid (Below w13.heap.size w13 w14) := Lib.hid (Below.trans zg (hb14.mono (by first | exact Nat.le_refl _ | omega | (simp; done) | (simp; omega))))
          have HB14 : Hid (Below w.heap.size w w14) := Lib.hid (HB13.out.trans (HS14.out.mono hs13))
          have hs14 := HB14.out.size
          have hst14 := HS14.out.size
          have HG14 := Lib.hid (HG13.out.up HS14.out)
          have HH14 := Lib.hid (HH13.out.up HS14.out)
          have HD14 := Lib.hid (HD13.out.up HS14.out)
          clear hb14
          clear kg0 kg1 kg2 lt_g kdc0 kdc1 kdc2 lt_dc
          obtain ⟨ka0, ka1, ka2, ka3, ka4, ka5, ka6, ka7⟩ := Ha14.out.c8
          have lt_a : w11.heap.size < w14.heap.size := Ha14.out.lt
          obtain ⟨kb0, kb1, kb2, kb3, kb4, kb5, kb6, kb7⟩ := Hb14.out.c8
          have lt_b : w12.heap.size < w14.heap.size := Hb14.out.lt
          go_wp2_with fail
          refine (EqualInt_eq none none 0 0 [] [] _ (fun h => absurd h (Nat.lt_irrefl 0)) (fun h => absurd h (Nat.lt_irrefl 0)) rfl (by decide)).mono ?_
          rw [beq_self_eq_true]
          rintro e w15 ⟨rfl, hb15⟩
          have Hg15 := Lib.hid (Holds.up (by have h := Hg14.out; exact zp4 : Holds _ (w2.heap.size) 24 #[.int .i64 err, .int .i64 miss, .slice G gs.length d]) hb15)
          have Hcc15 := Lib.hid (Holds.up (by have h := Hcc14.out; exact zp4 : Holds _ (w2.heap.size + 1) 27 #[.int .i64 full, .int .i64 emp, .slice H' la.length q']) hb15)
          have Hdc15 := Lib.hid (Holds.up (by have h := Hdc14.out; exact zp4 : Holds _ (w7.heap.size) 27 #[.int .i64 full, .int .i64 emp, .slice D ds.length e]) hb15)
          have Ha15 := Lib.hid (Holds.up (by have h := Ha14.out; exact zp4 : Holds _ (w11.heap.size) 76 #[.int .i64 0, .int .i64 0, .int .i64 0, .int .i64 0, .int .i64 0, .int .i64 0, .int .i64 0, .int .i64 0]) hb15)
          have Hb15 := Lib.hid (Holds.up (by have h := Hb14.out; exact zp4 : Holds _ (w12.heap.size) 76 #[.int .i64 0, .int .i64 0, .int .i64 0, .int .i64 0, .int .i64 0, .int .i64 0, .int .i64 0, .int .i64 0]) hb15)
          have HS15 : Hid (Below w14.heap.size w14 w15) := Lib.hid (Below.trans zg (hb15.mono (by first | exact Nat.le_refl _ | omega | (simp; done) | (simp; omega))))
          have HB15 : Hid (Below w.heap.size w w15) := Lib.hid (HB14.out.trans (HS15.out.mono hs14))
          have hs15 := HB15.out.size
          have hst15 := HS15.out.size
          have HG15 := Lib.hid (HG14.out.up HS15.out)
          have HH15 := Lib.hid (HH14.out.up HS15.out)
          have HD15 := Lib.hid (HD14.out.up HS15.out)
          clear hb15
          clear ka0 ka1 ka2 ka3 ka4 ka5 ka6 ka7 lt_a kb0 kb1 kb2 kb3 kb4 kb5 kb6 kb7 lt_b
          obtain ⟨kg0, kg1, kg2⟩ := Hg15.out.c3
          have lt_g : w2.heap.size < w15.heap.size := Hg15.out.lt
          obtain ⟨kcc0, kcc1, kcc2⟩ := Hcc15.out.c3
          have lt_cc : w2.heap.size + 1 < w15.heap.size := Hcc15.out.lt
          have hec : (if ln = 0 then (6 : Int) else 0) = 0 := if_neg (by have := (clash_yes HPOS.out HEM.out).2.2.1; rw [HCL1.out]; omega)
          have HEC := Lib.hid hec
          clear hec
          have hln4 : ln ≤ 6 := by rw [HCL1.out]; have := (clash_yes HPOS.out HEM.out).2.2.2; omega
          go_wp2_with fail
          refine (Clash_ok err miss full emp G H' d q' gs la _ (HG15.out.up zg) hgl' (HH15.out.up zg) hla' HE.out).mono ?_
          rintro e w16 ⟨v16, rfl, hown, hb16⟩
          have Hg16 := Lib.hid (Holds.up (by have h := Hg15.out; exact zp4 : Holds _ (w2.heap.size) 24 #[.int .i64 err, .int .i64 miss, .slice G gs.length d]) hb16)
          have Hcc16 := Lib.hid (Holds.up (by have h := Hcc15.out; exact zp4 : Holds _ (w2.heap.size + 1) 27 #[.int .i64 full, .int .i64 emp, .slice H' la.length q']) hb16)
          have Hdc16 := Lib.hid (Holds.up (by have h := Hdc15.out; exact zp4 : Holds _ (w7.heap.size) 27 #[.int .i64 full, .int .i64 emp, .slice D ds.length e]) hb16)
          have Ha16 := Lib.hid (Holds.up (by have h := Ha15.out; exact zp4 : Holds _ (w11.heap.size) 76 #[.int .i64 0, .int .i64 0, .int .i64 0, .int .i64 0, .int .i64 0, .int .i64 0, .int .i64 0, .int .i64 0]) hb16)
          have Hb16 := Lib.hid (Holds.up (by have h := Hb15.out; exact zp4 : Holds _ (w12.heap.size) 76 #[.int .i64 0, .int .i64 0, .int .i64 0, .int .i64 0, .int .i64 0, .int .i64 0, .int .i64 0, .int .i64 0]) hb16)
          have HS16 : Hid (Below w15.heap.size w15 w16) := Lib.hid (Below.trans zg (hb16.mono (by first | exact Nat.le_refl _ | omega | (simp; done) | (simp; omega))))
          have HB16 : Hid (Below w.heap.size w w16) := Lib.hid (HB15.out.trans (HS16.out.mono hs15))
          have hs16 := HB16.out.size
          have hst16 := HS16.out.size
          have HG16 := Lib.hid (HG15.out.up HS16.out)
          have HH16 := Lib.hid (HH15.out.up HS16.out)
          have HD16 := Lib.hid (HD15.out.up HS16.out)
          clear hb16
          obtain ⟨A16, c16, e16, _⟩ := ints_of_row hown
          subst e16
          clear hown
          rw [← HCL1.out, HEC.out]
          clear kg0 kg1 kg2 lt_g kcc0 kcc1 kcc2 lt_cc
          obtain ⟨kg0, kg1, kg2⟩ := Hg16.out.c3
          have lt_g : w2.heap.size < w16.heap.size := Hg16.out.lt
          obtain ⟨kdc0, kdc1, kdc2⟩ := Hdc16.out.c3
          have lt_dc : w7.heap.size < w16.heap.size := Hdc16.out.lt
          go_wp2_with fail
          refine (Clash_ok err miss full emp G D d e gs ds _ (HG16.out.up zg) hgl' (HD16.out.up zg) hla2 HE2.out).mono ?_
          rintro e w17 ⟨v17, rfl, hown, hb17⟩
          have Hg17 := Lib.hid (Holds.up (by have h := Hg16.out; exact zp4 : Holds _ (w2.heap.size) 24 #[.int .i64 err, .int .i64 miss, .slice G gs.length d]) hb17)
          have Hcc17 := Lib.hid (Holds.up (by have h := Hcc16.out; exact zp4 : Holds _ (w2.heap.size + 1) 27 #[.int .i64 full, .int .i64 emp, .slice H' la.length q']) hb17)
          have Hdc17 := Lib.hid (Holds.up (by have h := Hdc16.out; exact zp4 : Holds _ (w7.heap.size) 27 #[.int .i64 full, .int .i64 emp, .slice D ds.length e]) hb17)
          have Ha17 := Lib.hid (Holds.up (by have h := Ha16.out; exact zp4 : Holds _ (w11.heap.size) 76 #[.int .i64 0, .int .i64 0, .int .i64 0, .int .i64 0, .int .i64 0, .int .i64 0, .int .i64 0, .int .i64 0]) hb17)
          have Hb17 := Lib.hid (Holds.up (by have h := Hb16.out; exact zp4 : Holds _ (w12.heap.size) 76 #[.int .i64 0, .int .i64 0, .int .i64 0, .int .i64 0, .int .i64 0, .int .i64 0, .int .i64 0, .int .i64 0]) hb17)
          have HS17 : Hid (Below w16.heap.size w16 w17) := Lib.hid (Below.trans zg (hb17.mono (by first | exact Nat.le_refl _ | omega | (simp; done) | (simp; omega))))
          have HB17 : Hid (Below w.heap.size w w17) := Lib.hid (HB16.out.trans (HS17.out.mono hs16))
          have hs17 := HB17.out.size
          have hst17 := HS17.out.size
          have HG17 := Lib.hid (HG16.out.up HS17.out)
          have HH17 := Lib.hid (HH16.out.up HS17.out)
          have HD17 := Lib.hid (HD16.out.up HS17.out)
          clear hb17
          obtain ⟨A17, c17, e17, _⟩ := ints_of_row hown
          subst e17
          clear hown
          rw [← HCL2.out, HEC.out]
          clear kg0 kg1 kg2 lt_g kdc0 kdc1 kdc2 lt_dc
          obtain ⟨kg0, kg1, kg2⟩ := Hg17.out.c3
          have lt_g : w2.heap.size < w17.heap.size := Hg17.out.lt
          obtain ⟨kcc0, kcc1, kcc2⟩ := Hcc17.out.c3
          have lt_cc : w2.heap.size + 1 < w17.heap.size := Hcc17.out.lt
          go_wp2_with fail
          refine (Topped_ok err miss full emp G H' d q' gs la _ (HG17.out.up zg) hgl' (HH17.out.up zg) hla' HE.out).mono ?_
          rw [← HTB1.out]
          rintro e w18 ⟨rfl, hb18⟩
          have Hg18 := Lib.hid (Holds.up (by have h := Hg17.out; exact zp4 : Holds _ (w2.heap.size) 24 #[.int .i64 err, .int .i64 miss, .slice G gs.length d]) hb18)
          have Hcc18 := Lib.hid (Holds.up (by have h := Hcc17.out; exact zp4 : Holds _ (w2.heap.size + 1) 27 #[.int .i64 full, .int .i64 emp, .slice H' la.length q']) hb18)
          have Hdc18 := Lib.hid (Holds.up (by have h := Hdc17.out; exact zp4 : Holds _ (w7.heap.size) 27 #[.int .i64 full, .int .i64 emp, .slice D ds.length e]) hb18)
          have Ha18 := Lib.hid (Holds.up (by have h := Ha17.out; exact zp4 : Holds _ (w11.heap.size) 76 #[.int .i64 0, .int .i64 0, .int .i64 0, .int .i64 0, .int .i64 0, .int .i64 0, .int .i64 0, .int .i64 0]) hb18)
          have Hb18 := Lib.hid (Holds.up (by have h := Hb17.out; exact zp4 : Holds _ (w12.heap.size) 76 #[.int .i64 0, .int .i64 0, .int .i64 0, .int .i64 0, .int .i64 0, .int .i64 0, .int .i64 0, .int .i64 0]) hb18)
          have HS18 : Hid (Below w17.heap.size w17 w18) := Lib.hid (Below.trans zg (hb18.mono (by first | exact Nat.le_refl _ | omega | (simp; done) | (simp; omega))))
          have HB18 : Hid (Below w.heap.size w w18) := Lib.hid (HB17.out.trans (HS18.out.mono hs17))
          have hs18 := HB18.out.size
          have hst18 := HS18.out.size
          have HG18 := Lib.hid (HG17.out.up HS18.out)
          have HH18 := Lib.hid (HH17.out.up HS18.out)
          have HD18 := Lib.hid (HD17.out.up HS18.out)
          clear hb18
          clear kg0 kg1 kg2 lt_g kcc0 kcc1 kcc2 lt_cc
          obtain ⟨kg0, kg1, kg2⟩ := Hg18.out.c3
          have lt_g : w2.heap.size < w18.heap.size := Hg18.out.lt
          obtain ⟨kdc0, kdc1, kdc2⟩ := Hdc18.out.c3
          have lt_dc : w7.heap.size < w18.heap.size := Hdc18.out.lt
          go_wp2_with fail
          refine (Topped_ok err miss full emp G D d e gs ds _ (HG18.out.up zg) hgl' (HD18.out.up zg) hla2 HE2.out).mono ?_
          rw [HTB2.out]
          rintro e w19 ⟨rfl, hb19⟩
          have Hg19 := Lib.hid (Holds.up (by have h := Hg18.out; exact zp4 : Holds _ (w2.heap.size) 24 #[.int .i64 err, .int .i64 miss, .slice G gs.length d]) hb19)
          have Hcc19 := Lib.hid (Holds.up (by have h := Hcc18.out; exact zp4 : Holds _ (w2.heap.size + 1) 27 #[.int .i64 full, .int .i64 emp, .slice H' la.length q']) hb19)
          have Hdc19 := Lib.hid (Holds.up (by have h := Hdc18.out; exact zp4 : Holds _ (w7.heap.size) 27 #[.int .i64 full, .int .i64 emp, .slice D ds.length e]) hb19)
          have Ha19 := Lib.hid (Holds.up (by have h := Ha18.out; exact zp4 : Holds _ (w11.heap.size) 76 #[.int .i64 0, .int .i64 0, .int .i64 0, .int .i64 0, .int .i64 0, .int .i64 0, .int .i64 0, .int .i64 0]) hb19)
          have Hb19 := Lib.hid (Holds.up (by have h := Hb18.out; exact zp4 : Holds _ (w12.heap.size) 76 #[.int .i64 0, .int .i64 0, .int .i64 0, .int .i64 0, .int .i64 0, .int .i64 0, .int .i64 0, .int .i64 0]) hb19)
          have HS19 : Hid (Below w18.heap.size w18 w19) := Lib.hid (Below.trans zg (hb19.mono (by first | exact Nat.le_refl _ | omega | (simp; done) | (simp; omega))))
          have HB19 : Hid (Below w.heap.size w w19) := Lib.hid (HB18.out.trans (HS19.out.mono hs18))
          have hs19 := HB19.out.size
          have hst19 := HS19.out.size
          have HG19 := Lib.hid (HG18.out.up HS19.out)
          have HH19 := Lib.hid (HH18.out.up HS19.out)
          have HD19 := Lib.hid (HD18.out.up HS19.out)
          clear hb19
          clear kg0 kg1 kg2 lt_g kdc0 kdc1 kdc2 lt_dc
          cases tb
          all_goals
           go_wp2_with fail
           refine (awake_any _).mono ?_
           rintro e' w40 ⟨rfl, hb40⟩
           go_wp2_with fail
           go_ret
           exact ⟨rfl, HB19.out.trans (hb40.mono hs19)⟩
end Go.Proofs.Ytdpgfaikmahmpaa
