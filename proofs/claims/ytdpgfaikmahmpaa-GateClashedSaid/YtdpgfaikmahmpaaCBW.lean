
import Derived.Test.YtdpgfaikmahmpaaCAA
import Derived.Test.YtdpgfaikmahmpaaCAC
import Derived.Test.YtdpgfaikmahmpaaCBF
import Derived.Test.YtdpgfaikmahmpaaCBV
set_option linter.unusedSimpArgs false
set_option linter.unusedVariables false
namespace Go.Proofs.Ytdpgfaikmahmpaa
open Go.RowKit
set_option maxRecDepth 100000 in
set_option maxHeartbeats 16000000 in
theorem GateClashed_any (a0 : Option Addr) (len0 cap0 : Nat) (z0 : List Int) (a1 : Option Addr) (len1 cap1 : Nat) (z1 : List Int) (a2 : Option Addr) (len2 cap2 : Nat) (z2 : List Int) (w : World) (w0 : RowIn w a0 len0 cap0 z0) (w1_ : RowIn w a1 len1 cap1 z1) (w2_ : RowIn w a2 len2 cap2 z2) :
  Calls Try.prog 10 #[.slice a0 len0 cap0, .slice a1 len1 cap1, .slice a2 len2 cap2] w fun e w' => e = .returned (.bool true) ∧ Below w.heap.size w w' := by
 obtain ⟨ii, hii, hii0, hii1, hii2⟩ := info_parts info_int
 obtain ⟨hB0, hn⟩ := bytes_of w0
 obtain ⟨hB1, hn1⟩ := bytes_of w1_
 obtain ⟨hB2, hn2⟩ := bytes_of w2_
 have HYO := Lib.hid hB2
 clear hB2 w2_
 have HY0 := Lib.hid hB0
 have HY1 := Lib.hid hB1
 clear hB0 hB1 w0 w1_
 obtain ⟨ti, hti, hti0, hti1, hti2⟩ := info_parts info_hand
 go_enter Try.func10, Try.ntmps10
 go_wp2_with fail
 refine (Fill_any a0 len0 cap0 _ hn).mono ?_
 rintro e w1 ⟨m, rfl, hS1, hb1⟩
 have HS1 := Lib.hid hS1
 have HB1 := Lib.hid hb1
 clear hS1 hb1
 go_wp2_with fail
 refine (Made_any w.heap.size a0 len0 cap0 0 m 2 3 (by decide) (by decide) (by decide) (by decide) w1 HS1.out (HY0.out.up HB1.out) hn (by decide)).mono ?_
 rintro e w2 ⟨err, miss, full, emp, m0, m1, m2, m3, gs, hs, G, H, d, q, tk1, mm, rfl, hok, hgl, hhl, hog, hoh, -, -, hg2⟩
 have hgl2 : gs.length ≤ 2 := by omega
 have hhl4 : hs.length ≤ 3 := by omega
 have HB2 := Lib.hid (HB1.out.grown hg2 (by have := HS1.out.lt; omega) (fun k hk => by cases hk; exact Nat.le_refl _))
 have hs1 := HB1.out.size
 have hz2 := HB2.out.size
 have HOG := Lib.hid (OwnGrades.base hog hs1)
 have HOH := Lib.hid (OwnHands.base hoh hs1)
 have HOK := Lib.hid hok
 clear hok hog hoh hg2 HS1 HB1
 obtain ⟨e0, e1, i0m, i1m, y0_, y1_, f0, f1, _, _, _⟩ := HOK.out
 have i2m : miss ≤ 20 := by omega
 go_wp2_with fail
 refine (Fill_any a1 len1 cap1 _ hn1).mono ?_
 simp only [World.size_alloc]
 rintro e w3 ⟨sm, rfl, hS3, hb3⟩
 have Hs3 : Hid (Holds w3 (w2.heap.size + 1 + 1 + 1) 172 #[.slice a1 len1 cap1, .int .i64 ((0 : Nat) : Int), .int .u32 sm]) := Lib.hid hS3
 have Hg3 := Lib.hid (Holds.low (zp4 : Holds _ (w2.heap.size) 24 #[.int .i64 err, .int .i64 miss, .slice G gs.length d]) hb3 (by omega))
 have Hc3 := Lib.hid (Holds.low (zp4 : Holds _ (w2.heap.size + 1) 27 #[.int .i64 full, .int .i64 emp, .slice H hs.length q]) hb3 (by omega))
 have Hm3 := Lib.hid (Holds.low (zp4 : Holds _ (w2.heap.size + 1 + 1) 28 #[.int .i64 m0, .int .i64 m1, .int .i64 m2, .int .i64 m3]) hb3 (by omega))
 have HB3 : Hid (Below w2.heap.size w2 w3) := Lib.hid (Below.trans zg (hb3.mono (by omega)))
 have hsz3 := HB3.out.size
 have ls3 := hS3.lt
 clear hb3 hS3
 have HY3 := Lib.hid (HY1.out.up (HB2.out.trans (HB3.out.mono hz2)))
 have HOG3 := Lib.hid (HOG.out.up HB3.out)
 have HOH3 := Lib.hid (HOH.out.up HB3.out)
 go_wp2_with fail
 refine (Mixed_any (w2.heap.size + 1 + 1 + 1) a1 len1 cap1 0 sm _ Hs3.out HY3.out hn1 (by decide)).mono ?_
 rintro e w4 ⟨n0, n1, n2, n3, tk4, sm4, rfl, hmix, htk4, hs4_, hg4⟩
 have HNX := Lib.hid hmix
 have HS4 := Lib.hid hs4_
 have Hg4 := Lib.hid (Holds.grown Hg3.out hg4 (by omega))
 have Hc4 := Lib.hid (Holds.grown Hc3.out hg4 (by omega))
 have Hm4 := Lib.hid (Holds.grown Hm3.out hg4 (by omega))
 have hs34 := hg4.size
 have HB4 : Hid (Below w.heap.size w w4) := Lib.hid ((HB2.out.trans (HB3.out.mono hz2)).grown hg4 (by omega) (fun k hk => by cases hk; omega))
 have HY4 := Lib.hid (HY3.out.grown Hs3.out hg4)
 have HOH4 := Lib.hid (row_other_block HOH3.out Hs3.out (by decide) hg4)
 have HOG4 := Lib.hid (grades_other_block HOG3.out Hs3.out (by decide) hg4)
 clear hmix hs4_ hg4
 go_wp2_with fail
 refine (Below_any (w2.heap.size + 1 + 1 + 1) a1 len1 cap1 tk4 sm4 4 _ (by have h := HS4.out; exact zp4) (HY4.out.up zg) hn1 (by omega) (by decide) (by decide)).mono ?_
 rintro e w5 ⟨rr, sm5, rfl, rr0, rr1, _, hs5_, hg5⟩
 have HS5 := Lib.hid hs5_
 have ls4 := HS4.out.lt
 have Hg5 := Lib.hid (Holds.grown (by have h := Hg4.out; exact zp4 : Holds _ (w2.heap.size) 24 #[.int .i64 err, .int .i64 miss, .slice G gs.length d]) hg5 (by omega))
 have Hc5 := Lib.hid (Holds.grown (by have h := Hc4.out; exact zp4 : Holds _ (w2.heap.size + 1) 27 #[.int .i64 full, .int .i64 emp, .slice H hs.length q]) hg5 (by omega))
 have Hm5 := Lib.hid (Holds.grown (by have h := Hm4.out; exact zp4 : Holds _ (w2.heap.size + 1 + 1) 28 #[.int .i64 m0, .int .i64 m1, .int .i64 m2, .int .i64 m3]) hg5 (by omega))
 have Hn5 := Lib.hid (Holds.grown (zp4 : Holds _ (w4.heap.size) 28 #[.int .i64 n0, .int .i64 n1, .int .i64 n2, .int .i64 n3]) hg5 (by omega))
 have hs45 := hg5.size
 simp only [World.size_alloc] at hs45
 have HB5 : Hid (Below w.heap.size w w5) := Lib.hid (Below.grown (Below.trans HB4.out zg) hg5 (by simp; omega) (fun k hk => by cases hk; omega))
 have hsz5 := HB5.out.size
 have hb4a : Below w4.heap.size w4 (w4.alloc (.cells #[.int .i64 n0, .int .i64 n1, .int .i64 n2, .int .i64 n3] 28)) := by (repeat' (first | (with_reducible first | exact Below.refl _ _ | assumption | refine Below.alloc ?_ ?_ _ | refine Below.drew ?_ | refine Below.setCell ?_ ?_ _ | exact Nat.le_refl _) | omega | (simp only [World.size_alloc, World.size_setCell, World.size_drew]; omega) | (simp; omega) | (simp; done)))
 have HS4a := (Holds.alloc HS4.out (.cells #[.int .i64 n0, .int .i64 n1, .int .i64 n2, .int .i64 n3] 28))
 have HY5 := Lib.hid ((HY4.out.up hb4a).grown HS4a hg5)
 have HOH5 := Lib.hid (row_other_block (row5_up HOH4.out hb4a) HS4a (by decide) hg5)
 have HOG5 := Lib.hid (grades_other_block (OwnGrades.up HOG4.out hb4a) HS4a (by decide) hg5)
 clear hb4a HS4a
 clear hs5_ hg5
 go_wp2_with fail
 have HL0 : (0 : Int) ≤ rr := rr0
 go_loopw [44] (fun v44 wr => WdRel w.heap.size (w2.heap.size + 1 + 1 + 1) (w2.heap.size + 1) a1 len1 cap1 full emp miss n0 n1 n2 n3 hs rr w5 v44 wr) (fun v44 _ => (rr - intOf v44).toNat)
 case atStart => exact ⟨[], .slice H hs.length q, tk4 + 1, sm5, rfl, rr0, (fun _ h => absurd h (List.not_mem_nil)), by simp; omega, HS5.out, Hc5.out, (by rw [List.append_nil]; exact HOH5.out), But.refl _ _ _⟩
 case round =>
  obtain ⟨ex, sv, tk, mm_, rfl, hxr, hxt, htk, hSr, hCr, hOr, hBr⟩ := hrel
  have HSr := Lib.hid hSr
  have HCr := Lib.hid hCr
  have HQr := Lib.hid hBr
  have HXT := Lib.hid hxt
  have hszr := hBr.size
  have hxl2 : ex.length ≤ 3 := by omega
  obtain ⟨la, hla⟩ : ∃ z, z = hs ++ ex := ⟨_, rfl⟩
  have lal : la.length = hs.length + ex.length := by rw [hla, List.length_append]
  have la6 : la.length ≤ 6 := by omega
  have LAL := Lib.hid lal
  clear lal
  rw [← hla] at hOr
  have HOr := Lib.hid hOr
  have HLA := Lib.hid hla
  clear hSr hCr hBr hOr hla hxt
  by_cases hlt : (ex.length : Int) < rr
  ·as_aux_lemma =>
    have HRR := Lib.hid rr1
    go_wp2_with fail
    rename_i Kc hKc
    have HSL := Lib.hid (show slotsOf [some 46, some 47, some 48, some 49, some 50, some 51, some 52, some 53, some 54, none] = [46, 47, 48, 49, 50, 51, 52, 53, 54] from rfl)
    refine wp_region_partsG (by kernel_rfl) [some 46, some 47, some 48, some 49, some 50, some 51, some 52, some 53, some 54, none] (fun jq xq w' => match jq with
     | 0 => xq 46 = .pointer (some ⟨w2.heap.size + 1, 2, none⟩)
     | 1 => xq 47 = sv
     | 2 => xq 48 = .pointer (some ⟨w2.heap.size + 1 + 1 + 1, 0, none⟩)
     | 3 => xq 49 = .agg #[.int .i64 err, .int .i64 miss, .slice G gs.length d]
     | 4 => xq 50 = .agg #[.int .i64 n0, .int .i64 n1, .int .i64 n2, .int .i64 n3]
     | 5 => ∃ y tkx mmx, xq 51 = .agg #[.int .i64 y.spot, .int .i64 y.g0, .int .i64 y.g1, .int .i64 y.g2, .int .i64 y.g3] ∧ TakenOk miss n0 n1 n2 n3 y ∧ tkx ≤ tk + 8 ∧ Holds w' (w2.heap.size + 1 + 1 + 1) 172 #[.slice a1 len1 cap1, .int .i64 ((tkx : Nat) : Int), .int .u32 mmx]
     | 6 => ∃ b y, xq 52 = .slice (some ⟨b, 0, none⟩) 1 1 ∧ Holds w' b 30 y.cells.toArray ∧ TakenOk miss n0 n1 n2 n3 y
     | 7 => ∃ A2 d2 y, xq 53 = .slice A2 (la.length + 1) d2 ∧ OwnHands w' w.heap.size (.slice A2 (la.length + 1) d2) (la ++ [y]) ∧ TakenOk miss n0 n1 n2 n3 y
     | 8 => xq 54 = .pointer (some ⟨w2.heap.size + 1, 2, none⟩)
     | 9 => ∃ A2 d2 y, Holds w' (w2.heap.size + 1) 27 #[.int .i64 full, .int .i64 emp, .slice A2 (la.length + 1) d2] ∧ OwnHands w' w.heap.size (.slice A2 (la.length + 1) d2) (la ++ [y]) ∧ TakenOk miss n0 n1 n2 n3 y
     | 10 => Holds w' (w2.heap.size + 1 + 1 + 1) 172 #[.slice a1 len1 cap1, .int .i64 ((tk : Nat) : Int), .int .u32 mm_]
     | 11 => Holds w' (w2.heap.size + 1) 27 #[.int .i64 full, .int .i64 emp, sv]
     | 12 => OwnHands w' w.heap.size sv la
     | _ => True) [[46], [47], [48], [49], [50], [51], [52], [53], [54], [], [], [], []] [(5, 10), (7, 10), (9, 10), (7, 6), (9, 6), (7, 12), (9, 11)] (fun w' => But w.heap.size [w2.heap.size + 1 + 1 + 1, w2.heap.size + 1] w5 w') (by kernel_rfl)  ?_ ?_ (fun w' w'' hb h => h.up hsz5 hb) (HQr.out) ?_ ?_ ?_
    ·intro jq xq xq' wqq h hv
     match jq, h, hv with
     | 0, h, hv => show xq' 46 = .pointer (some ⟨w2.heap.size + 1, 2, none⟩); rw [← h 46 (by decide)]; exact hv
     | 1, h, hv => show xq' 47 = sv; rw [← h 47 (by decide)]; exact hv
     | 2, h, hv => show xq' 48 = .pointer (some ⟨w2.heap.size + 1 + 1 + 1, 0, none⟩); rw [← h 48 (by decide)]; exact hv
     | 3, h, hv => show xq' 49 = .agg #[.int .i64 err, .int .i64 miss, .slice G gs.length d]; rw [← h 49 (by decide)]; exact hv
     | 4, h, hv => show xq' 50 = .agg #[.int .i64 n0, .int .i64 n1, .int .i64 n2, .int .i64 n3]; rw [← h 50 (by decide)]; exact hv
     | 5, h, hv => show ∃ y tkx mmx, xq' 51 = .agg #[.int .i64 y.spot, .int .i64 y.g0, .int .i64 y.g1, .int .i64 y.g2, .int .i64 y.g3] ∧ TakenOk miss n0 n1 n2 n3 y ∧ tkx ≤ tk + 8 ∧ Holds wqq (w2.heap.size + 1 + 1 + 1) 172 #[.slice a1 len1 cap1, .int .i64 ((tkx : Nat) : Int), .int .u32 mmx]; rw [← h 51 (by decide)]; exact hv
     | 6, h, hv => show ∃ b y, xq' 52 = .slice (some ⟨b, 0, none⟩) 1 1 ∧ Holds wqq b 30 y.cells.toArray ∧ TakenOk miss n0 n1 n2 n3 y; rw [← h 52 (by decide)]; exact hv
     | 7, h, hv => show ∃ A2 d2 y, xq' 53 = .slice A2 (la.length + 1) d2 ∧ OwnHands wqq w.heap.size (.slice A2 (la.length + 1) d2) (la ++ [y]) ∧ TakenOk miss n0 n1 n2 n3 y; rw [← h 53 (by decide)]; exact hv
     | 8, h, hv => show xq' 54 = .pointer (some ⟨w2.heap.size + 1, 2, none⟩); rw [← h 54 (by decide)]; exact hv
     | 9, h, hv => exact hv
     | 10, h, hv => exact hv
     | 11, h, hv => exact hv
     | 12, h, hv => exact hv
     | _ + 13, _, _ => trivial
    ·intro jq xq wqq w' hb' hv
     match jq, hv with
     | 0, hv => exact hv
     | 1, hv => exact hv
     | 2, hv => exact hv
     | 3, hv => exact hv
     | 4, hv => exact hv
     | 5, ⟨b0, b1, b2, h0, h1, h2, h3⟩ => exact ⟨b0, b1, b2, h0, h1, h2, h3.up hb'⟩
     | 6, ⟨b0, b1, h0, h1, h2⟩ => exact ⟨b0, b1, h0, h1.up hb', h2⟩
     | 7, ⟨b0, b1, b2, h0, h1, h2⟩ => exact ⟨b0, b1, b2, h0, h1.up hb', h2⟩
     | 8, hv => exact hv
     | 9, ⟨b0, b1, b2, h0, h1, h2⟩ => exact ⟨b0, b1, b2, h0.up hb', h1.up hb', h2⟩
     | 10, h0 => exact h0.up hb'
     | 11, h0 => exact h0.up hb'
     | 12, h0 => exact h0.up hb'
     | _ + 13, _ => trivial
    ·intro jq hj
     match jq, hj with
     | 0, hj => exact absurd hj (by decide)
     | 1, hj => exact absurd hj (by decide)
     | 2, hj => exact absurd hj (by decide)
     | 3, hj => exact absurd hj (by decide)
     | 4, hj => exact absurd hj (by decide)
     | 5, hj => exact absurd hj (by decide)
     | 6, hj => exact absurd hj (by decide)
     | 7, hj => exact absurd hj (by decide)
     | 8, hj => exact absurd hj (by decide)
     | 9, hj => exact absurd hj (by decide)
     | 10, _ => exact HSr.out
     | 11, _ => exact HCr.out
     | 12, _ => exact HOr.out
     | _ + 13, _ => trivial
    ·refine ⟨?_, ?_, ?_, ?_, ?_, ?_, ?_, ?_, ?_, ?_, trivial⟩
     ·intro xq w6 hb6 hx K hK0
      have hK := fun v w' hb => hK0 v w' (.inl hb)
      clear hx hKc hK0
      have hsz1 := hb6.size
      simp only [frameOf, fill, setSlot, sg, Nat.reduceBEq, if_true, if_false, Nat.reduceAdd, Nat.reduceEqDiff, HSL.out] at hK ⊢
      go_wp2_with (fail)
      exact hK _ _ (Below.refl _ _) rfl
     ·intro xq w6 hb6 hx K hK0
      have hK := fun v w' hb => hK0 v w' (.inl hb)
      have e46 : xq 46 = .pointer (some ⟨w2.heap.size + 1, 2, none⟩) := hx 0 (by rfl) (by rfl)
      have fic_0 : Holds w6 (w2.heap.size + 1) 27 #[.int .i64 full, .int .i64 emp, sv] := hx 11 (by rfl) (by rfl)
      clear hx hKc hK0
      have hsz1 := hb6.size
      obtain ⟨kc0, kc1, kc2⟩ := fic_0.c3
      simp only [frameOf, fill, setSlot, sg, Nat.reduceBEq, if_true, if_false, Nat.reduceAdd, Nat.reduceEqDiff, HSL.out] at hK ⊢
      simp only [e46] at hK ⊢
      clear e46
      go_wp2_with (fail)
      exact hK _ _ (Below.refl _ _) rfl
     ·intro xq w6 hb6 hx K hK0
      have hK := fun v w' hb => hK0 v w' (.inl hb)
      clear hx hKc hK0
      have hsz1 := hb6.size
      simp only [frameOf, fill, setSlot, sg, Nat.reduceBEq, if_true, if_false, Nat.reduceAdd, Nat.reduceEqDiff, HSL.out] at hK ⊢
      go_wp2_with (fail)
      exact hK _ _ (Below.refl _ _) rfl
     ·intro xq w6 hb6 hx K hK0
      have hK := fun v w' hb => hK0 v w' (.inl hb)
      clear hx hKc hK0
      have hsz1 := hb6.size
      have hq := Hg5.out.but hb6 (by simp; omega) (by decide)
      obtain ⟨kg0, kg1, kg2⟩ := hq.c3
      clear hq
      simp only [frameOf, fill, setSlot, sg, Nat.reduceBEq, if_true, if_false, Nat.reduceAdd, Nat.reduceEqDiff, HSL.out] at hK ⊢
      go_wp2_with (fail)
      exact hK _ _ (Below.refl _ _) rfl
     ·intro xq w6 hb6 hx K hK0
      have hK := fun v w' hb => hK0 v w' (.inl hb)
      clear hx hKc hK0
      have hsz1 := hb6.size
      have hq := Hn5.out.but hb6 (by simp; omega) (by decide)
      obtain ⟨kn0, kn1, kn2, kn3⟩ := hq.c4
      clear hq
      simp only [frameOf, fill, setSlot, sg, Nat.reduceBEq, if_true, if_false, Nat.reduceAdd, Nat.reduceEqDiff, HSL.out] at hK ⊢
      go_wp2_with (fail)
      exact hK _ _ (Below.refl _ _) rfl
     ·intro xq w6 hb6 hx K hK0
      have hK := fun v w' hb => hK0 v w' (.inr hb)
      have e48 : xq 48 = .pointer (some ⟨w2.heap.size + 1 + 1 + 1, 0, none⟩) := hx 2 (by rfl) (by rfl)
      have e49 : xq 49 = .agg #[.int .i64 err, .int .i64 miss, .slice G gs.length d] := hx 3 (by rfl) (by rfl)
      have e50 : xq 50 = .agg #[.int .i64 n0, .int .i64 n1, .int .i64 n2, .int .i64 n3] := hx 4 (by rfl) (by rfl)
      have fiS_0 : Holds w6 (w2.heap.size + 1 + 1 + 1) 172 #[.slice a1 len1 cap1, .int .i64 ((tk : Nat) : Int), .int .u32 mm_] := hx 10 (by rfl) (by rfl)
      clear hx hKc hK0
      have hsz1 := hb6.size
      simp only [frameOf, fill, setSlot, sg, Nat.reduceBEq, if_true, if_false, Nat.reduceAdd, Nat.reduceEqDiff, HSL.out] at hK ⊢
      simp only [e48, e49, e50] at hK ⊢
      clear e48 e49 e50
      go_wp2_with (go_at_call 69; refine (Taken_any (w2.heap.size + 1 + 1 + 1) a1 len1 cap1 tk mm_ err miss G gs.length d n0 n1 n2 n3 HNX.out i0m i2m _ fiS_0 (HY1.out.up (HB5.out.trans hb6.below)) hn1 (by omega)).mono ?_; rintro e w2_ ⟨y, tkx, mmx, rfl, hok, htk', hsk, g⟩)
      refine hK _ _ ⟨(hb6.listed hsz5 g (by simp) (by omega)), ?_⟩ ⟨y, tkx, mmx, rfl, hok, htk', hsk⟩
      intro jq xq hd hne hv
      match jq, hd, hne, hv with
      | 0, _, _, hv => exact hv
      | 1, _, _, hv => exact hv
      | 2, _, _, hv => exact hv
      | 3, _, _, hv => exact hv
      | 4, _, _, hv => exact hv
      | 5, _, hne, _ => exact absurd rfl hne
      | 6, _, _, hv => obtain ⟨b, y', e1, h1, h2⟩ := hv; exact ⟨b, y', e1, h1.other fiS_0 g (by decide), h2⟩
      | 7, _, _, hv => obtain ⟨a1_, d1, y', e1, h1, h2⟩ := hv; exact ⟨a1_, d1, y', e1, row_other_block h1 fiS_0 (by decide) g, h2⟩
      | 8, _, _, hv => exact hv
      | 9, _, _, hv => obtain ⟨a1_, d1, y', h0, h1, h2⟩ := hv; exact ⟨a1_, d1, y', h0.other fiS_0 g (by decide), row_other_block h1 fiS_0 (by decide) g, h2⟩
      | 10, hd, _, _ => exact absurd hd (by decide)
      | 11, _, _, hv => exact Holds.other hv fiS_0 g (by decide)
      | 12, _, _, hv => exact row_other_block hv fiS_0 (by decide) g
      | _ + 13, _, _, _ => trivial
     ·intro xq w6 hb6 hx K hK0
      have hK := fun v w' hb => hK0 v w' (.inl hb)
      obtain ⟨y51, tkx51, mmx51, e51, f51_0, f51_1, f51_2⟩ := hx 5 (by rfl) (by rfl)
      clear hx hKc hK0
      have hsz1 := hb6.size
      simp only [frameOf, fill, setSlot, sg, Nat.reduceBEq, if_true, if_false, Nat.reduceAdd, Nat.reduceEqDiff, HSL.out] at hK ⊢
      simp only [e51] at hK ⊢
      clear e51
      go_wp2_with (fail)
      exact hK _ _ ((Below.refl _ _).alloc (Nat.le_refl _) _) ⟨_, _, rfl, Holds.new _ _ _, f51_0⟩
     ·intro xq w6 hb6 hx K hK0
      have hK := fun v w' hb => hK0 v w' (.inr hb)
      have e47 : xq 47 = sv := hx 1 (by rfl) (by rfl)
      obtain ⟨b52, y52, e52, f52_0, f52_1⟩ := hx 6 (by rfl) (by rfl)
      have fio_0 : OwnHands w6 w.heap.size sv la := hx 12 (by rfl) (by rfl)
      have fic_0 : Holds w6 (w2.heap.size + 1) 27 #[.int .i64 full, .int .i64 emp, sv] := hx 11 (by rfl) (by rfl)
      clear hx hKc hK0
      have hsz1 := hb6.size
      have HO1 : Hid (w6.ownsRow w.heap.size 30 5 sv la.length (la.flatMap Hf.cells)) := Lib.hid fio_0
      simp only [frameOf, fill, setSlot, sg, Nat.reduceBEq, if_true, if_false, Nat.reduceAdd, Nat.reduceEqDiff, HSL.out] at hK ⊢
      simp only [e47, e52] at hK ⊢
      clear e47 e52
      go_wp2_with (at_builtin; (refine wpList_append_own _ rfl _ _ 25 rfl w.heap.size 30 ti _ 5 40 und_hands hti hti0 hti1 hti2 rfl (by decide) _ _ _ rfl HO1.out ⟨b52, 0, none⟩ 1 1 y52.cells rfl rfl (holds_news f52_0) (hand_one _) (by unfold maxLen; omega) (by omega) (by omega) ?_); intro v5 w5_ hown5 hgrow5 _; obtain ⟨A5, c5, rfl, _⟩ := row5_val hown5; have ho5 := OwnHands.snoc (h := y52) hown5; have HO5 := Lib.hid ho5; have HG5 := Lib.hid hgrow5; clear hown5 hgrow5 ho5)
      refine hK _ _ ⟨(hb6.row hsz5 HO1.out (Nat.le_refl _) HG5.out), ?_⟩ ⟨_, _, _, rfl, HO5.out, f52_1⟩
      intro jq xq hd hne hv
      match jq, hd, hne, hv with
      | 0, _, _, hv => exact hv
      | 1, _, _, hv => exact hv
      | 2, _, _, hv => exact hv
      | 3, _, _, hv => exact hv
      | 4, _, _, hv => exact hv
      | 5, _, _, hv => obtain ⟨y', x6, x7, e1, h1, h2, h3⟩ := hv; exact ⟨y', x6, x7, e1, h1, h2, h3.row_turned HO1.out (by decide) HG5.out⟩
      | 6, hd, _, _ => exact absurd hd (by decide)
      | 7, _, hne, _ => exact absurd rfl hne
      | 8, _, _, hv => exact hv
      | 9, _, _, hv => obtain ⟨_, _, _, h9, _⟩ := hv; exact (row_over h9 fic_0 HO1.out rfl).elim
      | 10, hd, _, _ => exact absurd hd (by decide)
      | 11, _, _, hv => exact Holds.row_turned hv HO1.out (by decide) HG5.out
      | 12, hd, _, _ => exact absurd hd (by decide)
      | _ + 13, _, _, _ => trivial
     ·intro xq w6 hb6 hx K hK0
      have hK := fun v w' hb => hK0 v w' (.inl hb)
      clear hx hKc hK0
      have hsz1 := hb6.size
      simp only [frameOf, fill, setSlot, sg, Nat.reduceBEq, if_true, if_false, Nat.reduceAdd, Nat.reduceEqDiff, HSL.out] at hK ⊢
      go_wp2_with (fail)
      exact hK _ _ (Below.refl _ _) rfl
     ·intro xq w6 hb6 hx K hK0
      have hK := fun v w' hb => hK0 v w' (.inr hb)
      obtain ⟨A253, d253, y53, e53, f53_0, f53_1⟩ := hx 7 (by rfl) (by rfl)
      have e54 : xq 54 = .pointer (some ⟨w2.heap.size + 1, 2, none⟩) := hx 8 (by rfl) (by rfl)
      have fic_0 : Holds w6 (w2.heap.size + 1) 27 #[.int .i64 full, .int .i64 emp, sv] := hx 11 (by rfl) (by rfl)
      clear hx hKc hK0
      have hsz1 := hb6.size
      obtain ⟨kc0, kc1, kc2⟩ := fic_0.c3
      obtain ⟨zc0, zc1, zc2⟩ := fic_0.f3
      simp only [frameOf, fill, setSlot, sg, Nat.reduceBEq, if_true, if_false, Nat.reduceAdd, Nat.reduceEqDiff, HSL.out] at hK ⊢
      have E53 := Lib.hid e53
      have E54 := Lib.hid e54
      simp only [e53, e54] at hK ⊢
      clear e53 e54
      go_wp2_with (fail)
      refine hK undef _ ⟨(hb6.listed hsz5 (grown_set w6 ⟨w2.heap.size + 1, 2, none⟩ _) (by simp) (by show w.heap.size ≤ w2.heap.size + 1; omega)), ?_⟩ ⟨A253, d253, y53, (by have h := fic_0; exact zp4), row_other_block f53_0 fic_0 (by decide) (grown_set w6 ⟨w2.heap.size + 1, 2, none⟩ _), f53_1⟩
      intro jq xq hd hne hv
      match jq, hd, hne, hv with
      | 0, _, _, hv => exact hv
      | 1, _, _, hv => exact hv
      | 2, _, _, hv => exact hv
      | 3, _, _, hv => exact hv
      | 4, _, _, hv => exact hv
      | 5, _, _, hv => obtain ⟨y', x6, x7, e1, h1, h2, h3⟩ := hv; exact ⟨y', x6, x7, e1, h1, h2, h3.far (by simp only [ne_eq]; omega) _⟩
      | 6, hd, _, _ => exact absurd hd (by decide)
      | 7, _, _, hv => obtain ⟨a1_, d1, y', e1, h1, h2⟩ := hv; exact ⟨a1_, d1, y', e1, row_other_block h1 fic_0 (by decide) (grown_set w6 ⟨w2.heap.size + 1, 2, none⟩ _), h2⟩
      | 8, _, _, hv => exact hv
      | 9, _, hne, _ => exact absurd rfl hne
      | 10, hd, _, _ => exact absurd hd (by decide)
      | 11, hd, _, _ => exact absurd hd (by decide)
      | 12, _, _, hv => exact row_other_block hv fic_0 (by decide) (grown_set w6 ⟨w2.heap.size + 1, 2, none⟩ _)
      | _ + 13, _, _, _ => trivial
    ·intro xq w6 hb6 hx
     have e46 : xq 46 = .pointer (some ⟨w2.heap.size + 1, 2, none⟩) := hx 0 (by decide)
     have e47 : xq 47 = sv := hx 1 (by decide)
     have e48 : xq 48 = .pointer (some ⟨w2.heap.size + 1 + 1 + 1, 0, none⟩) := hx 2 (by decide)
     have e49 : xq 49 = .agg #[.int .i64 err, .int .i64 miss, .slice G gs.length d] := hx 3 (by decide)
     have e50 : xq 50 = .agg #[.int .i64 n0, .int .i64 n1, .int .i64 n2, .int .i64 n3] := hx 4 (by decide)
     obtain ⟨y51, tkx51, mmx51, e51, f51_0, f51_1, f51_2⟩ := hx 5 (by decide)
     obtain ⟨A253, d253, y53, e53, f53_0, f53_1⟩ := hx 7 (by decide)
     have e54 : xq 54 = .pointer (some ⟨w2.heap.size + 1, 2, none⟩) := hx 8 (by decide)
     obtain ⟨A2n9, d2n9, yn9, fn9_0, fn9_1, fn9_2⟩ := hx 9 (by decide)
     clear hx
     have hsz1 := hb6.size
     simp only [frameOf, fill, setSlot, sg, Nat.reduceBEq, if_true, if_false, Nat.reduceAdd, Nat.reduceEqDiff, HSL.out]
     simp only [e46, e47, e48, e49, e50, e51, e53, e54]
     clear e46 e47 e48 e49 e50 e51 e53 e54
     refine hKc _ _ ?_
     have hszz := fn9_0.lt
     go_wp2_with fail
     go_roundw
     case rel =>
      refine ⟨ex ++ [yn9], _, tkx51, mmx51, (by rw [List.length_append, List.length_singleton]; first | rfl | go_num | simp), (by rw [List.length_append, List.length_singleton]; omega), ?_, (by rw [List.length_append, List.length_singleton]; omega), f51_2, fn9_0, (by rw [← List.append_assoc, ← HLA.out]; exact fn9_1), hb6⟩
      intro z hz
      rcases List.mem_append.1 hz with hz | hz
      ·exact HXT.out z hz
      ·rw [List.mem_singleton] at hz; subst hz; exact fn9_2
     case measure => simp [intOf]; omega
  ·as_aux_lemma =>
    have hre : (ex.length : Int) = rr := by omega
    clear hlt
    have HORo := HOr
    obtain ⟨H', q', e1, hq', hH'⟩ := OwnHands.at_ HOr.out
    subst e1
    have HHr := Lib.hid hH'
    have Hccr := HCr
    have Hgr := Lib.hid (Hg5.out.but HQr.out (by simp; omega) (by decide))
    have hogr := HOG5.out.but HQr.out (fun l hl cs f e => by rcases List.mem_cons.1 hl with rfl | hl; (have := HS5.out.symm.trans e; simp at this); rcases List.mem_cons.1 hl with rfl | hl; (have := Hc5.out.symm.trans e; simp at this); cases hl)
    obtain ⟨_, _, e1, hgd, hG⟩ := OwnGrades.at_ hogr
    cases e1
    have HGr := Lib.hid hG
    have HBr : Hid (Below w.heap.size w wr) := Lib.hid (HB5.out.trans HQr.out.below)
    have hsr := HBr.out.size
    clear hH' hogr hG
    have hlt_ : ∀ x ∈ la, x.taken = true ∧ x.enough = true := by rw [HLA.out]; intro x hx; rcases List.mem_append.1 hx with hx | hx; exact ⟨(HOK.out.taken x hx).taken, (HOK.out.taken x hx).enough⟩; exact ⟨(HXT.out x hx).taken, (HXT.out x hx).enough⟩
    have hce : cartErr full emp la = 0 := cart_zero (by omega) (by omega) (by omega) (by omega) (by omega) hlt_
    have hge := HOK.out.gate (by omega)
    have hbe : bothErr err miss gs full emp la = 0 := by unfold bothErr; rw [hge, hce]; simp
    have hpos : ∀ x ∈ la, 0 < x.sum := fun x hx => by have := enough_parts (hlt_ x hx).2; show 0 < x.g0 + x.g1 + x.g2 + x.g3; omega
    have HPOS := Lib.hid hpos
    have HE := Lib.hid hbe
    have HTE := Lib.hid hlt_
    clear hbe hlt_ hce hge hpos
    have hgl' : gs.length ≤ 1000 := by omega
    have hla' : la.length ≤ 1000 := by omega
    cases hem : (boundsOf miss (fun _ => true) la).empty with
    | false =>
     as_aux_lemma =>
      have HEM := Lib.hid hem
      have hcl := clash_no HPOS.out hem
      have HCL := Lib.hid hcl
      have htp : toppedOf miss la = false := by unfold toppedOf allBx; rw [hem]; simp
      have HTP := Lib.hid htp
      obtain ⟨B, hBx⟩ : ∃ z, boundsOf miss (fun _ => true) la = z := ⟨_, rfl⟩
      obtain ⟨c0, hc0⟩ : ∃ z, z = B.l0 + B.t0 := ⟨_, rfl⟩
      obtain ⟨c1, hc1⟩ : ∃ z, z = B.l1 + B.t1 := ⟨_, rfl⟩
      obtain ⟨c2, hc2⟩ : ∃ z, z = B.l2 + B.t2 := ⟨_, rfl⟩
      obtain ⟨c3, hc3⟩ : ∃ z, z = B.l3 + B.t3 := ⟨_, rfl⟩
      have HBX := Lib.hid hBx
      have HC0 := Lib.hid hc0
      have HC1 := Lib.hid hc1
      have HC2 := Lib.hid hc2
      have HC3 := Lib.hid hc3
      clear hem hcl htp hBx hc0 hc1 hc2 hc3
      obtain ⟨kg0, kg1, kg2⟩ := Hgr.out.c3
      have lt_g : w2.heap.size < wr.heap.size := Hgr.out.lt
      obtain ⟨kcc0, kcc1, kcc2⟩ := Hccr.out.c3
      have lt_cc : w2.heap.size + 1 < wr.heap.size := Hccr.out.lt
      go_wp2_with fail
      refine (Mixture_ok err miss full emp G H' d q' gs la _ (HGr.out.up zg) hgl' (HHr.out.up zg) hla' HE.out HEM.out).mono ?_
      rw [HBX.out, ← HC0.out, ← HC1.out, ← HC2.out, ← HC3.out]
      rintro e w7 ⟨rfl, hb7⟩
      have Hg7 := Lib.hid (Holds.up (by have h := Hgr.out; exact zp4 : Holds _ (w2.heap.size) 24 #[.int .i64 err, .int .i64 miss, .slice G gs.length d]) hb7)
      have Hcc7 := Lib.hid (Holds.up (by have h := Hccr.out; exact zp4 : Holds _ (w2.heap.size + 1) 27 #[.int .i64 full, .int .i64 emp, .slice H' la.length q']) hb7)
      have HS7 : Hid (Below wr.heap.size wr w7) := Lib.hid (Below.trans zg (hb7.mono (by first | exact Nat.le_refl _ | omega | (simp; done) | (simp; omega))))
      have HB7 : Hid (Below w.heap.size w w7) := Lib.hid (HBr.out.trans (HS7.out.mono hsr))
      have hs7 := HB7.out.size
      have hst7 := HS7.out.size
      have HG7 := Lib.hid (HGr.out.up HS7.out)
      have HH7 := Lib.hid (HHr.out.up HS7.out)
      clear hb7
      clear kg0 kg1 kg2 lt_g kcc0 kcc1 kcc2 lt_cc
      obtain ⟨kg0, kg1, kg2⟩ := Hg7.out.c3
      have lt_g : w2.heap.size < w7.heap.size := Hg7.out.lt
      obtain ⟨kcc0, kcc1, kcc2⟩ := Hcc7.out.c3
      have lt_cc : w2.heap.size + 1 < w7.heap.size := Hcc7.out.lt
      go_wp2_with fail
      refine (Clash_ok err miss full emp G H' d q' gs la _ (HG7.out.up zg) hgl' (HH7.out.up zg) hla' HE.out).mono ?_
      rintro e w8 ⟨v8, rfl, hown, hb8⟩
      have Hg8 := Lib.hid (Holds.up (by have h := Hg7.out; exact zp4 : Holds _ (w2.heap.size) 24 #[.int .i64 err, .int .i64 miss, .slice G gs.length d]) hb8)
      have Hcc8 := Lib.hid (Holds.up (by have h := Hcc7.out; exact zp4 : Holds _ (w2.heap.size + 1) 27 #[.int .i64 full, .int .i64 emp, .slice H' la.length q']) hb8)
      have HS8 : Hid (Below w7.heap.size w7 w8) := Lib.hid (Below.trans zg (hb8.mono (by first | exact Nat.le_refl _ | omega | (simp; done) | (simp; omega))))
      have HB8 : Hid (Below w.heap.size w w8) := Lib.hid (HB7.out.trans (HS8.out.mono hs7))
      have hs8 := HB8.out.size
      have hst8 := HS8.out.size
      have HG8 := Lib.hid (HG7.out.up HS8.out)
      have HH8 := Lib.hid (HH7.out.up HS8.out)
      clear hb8
      rw [HCL.out] at hown
      obtain ⟨A8, c8, e8, hi8⟩ := ints_of_row hown
      subst e8
      clear hown hi8
      rw [HCL.out, if_pos (by rfl)]
      clear kg0 kg1 kg2 lt_g kcc0 kcc1 kcc2 lt_cc
      obtain ⟨kg0, kg1, kg2⟩ := Hg8.out.c3
      have lt_g : w2.heap.size < w8.heap.size := Hg8.out.lt
      obtain ⟨kcc0, kcc1, kcc2⟩ := Hcc8.out.c3
      have lt_cc : w2.heap.size + 1 < w8.heap.size := Hcc8.out.lt
      go_wp2_with fail
      refine (Topped_ok err miss full emp G H' d q' gs la _ (HG8.out.up zg) hgl' (HH8.out.up zg) hla' HE.out).mono ?_
      rw [HTP.out]
      rintro e w9 ⟨rfl, hb9⟩
      have Hg9 := Lib.hid (Holds.up (by have h := Hg8.out; exact zp4 : Holds _ (w2.heap.size) 24 #[.int .i64 err, .int .i64 miss, .slice G gs.length d]) hb9)
      have Hcc9 := Lib.hid (Holds.up (by have h := Hcc8.out; exact zp4 : Holds _ (w2.heap.size + 1) 27 #[.int .i64 full, .int .i64 emp, .slice H' la.length q']) hb9)
      have HS9 : Hid (Below w8.heap.size w8 w9) := Lib.hid (Below.trans zg (hb9.mono (by first | exact Nat.le_refl _ | omega | (simp; done) | (simp; omega))))
      have HB9 : Hid (Below w.heap.size w w9) := Lib.hid (HB8.out.trans (HS9.out.mono hs8))
      have hs9 := HB9.out.size
      have hst9 := HS9.out.size
      have HG9 := Lib.hid (HG8.out.up HS9.out)
      have HH9 := Lib.hid (HH8.out.up HS9.out)
      clear hb9
      clear kg0 kg1 kg2 lt_g kcc0 kcc1 kcc2 lt_cc
      go_wp2_with fail
      go_loopw [18, 98] (fun v18 v98 wz => ∃ k : Nat, v18 = .bool (apTo miss la k) ∧ v98 = .int .i64 (k : Int) ∧ k ≤ 3 ∧ Below w9.heap.size w9 wz) (fun _ v98 _ => 3 - (intOf v98).toNat)
      case atStart => exact ⟨0, rfl, rfl, by decide, Below.refl _ _⟩
      case round =>
       rename World => wa
       obtain ⟨k, rfl, rfl, hk3, hl⟩ := hrel
       have HSa := Lib.hid hl
       have hsza := hl.size
       clear hl
       have Hga := Lib.hid (Hg9.out.up HSa.out)
       have Hcca := Lib.hid (Hcc9.out.up HSa.out)
       have HGa := Lib.hid (HG9.out.up HSa.out)
       have HHa := Lib.hid (HH9.out.up HSa.out)
       have HBa : Hid (Below w.heap.size w wa) := Lib.hid (HB9.out.trans (HSa.out.mono hs9))
       have hsa := HBa.out.size
       by_cases hlt3 : k < 3
       ·as_aux_lemma =>
         have hk3' : (k : Int) < 3 := by omega
         obtain ⟨kcc0, kcc1, kcc2⟩ := Hcca.out.c3
         have lt_cc : w2.heap.size + 1 < wa.heap.size := Hcca.out.lt
         go_wp2_with fail
         clear kcc0 kcc1 kcc2 lt_cc
         go_loopw [20, 104] (fun v20 v104 wz => ∃ i : Nat, v104 = .int .i64 (i : Int) ∧ i ≤ la.length ∧ OwnInts wz wa.heap.size v20 (idxs (spotP la k) i) ∧ Below wa.heap.size wa wz) (fun _ v104 _ => la.length - (intOf v104).toNat)
         case atStart => exact ⟨0, rfl, Nat.zero_le _, ⟨rfl, .inl ⟨rfl, rfl⟩⟩, zg⟩
         case round =>
          rename World => wx
          obtain ⟨i, rfl, hil, hown, hl⟩ := hrel
          have HSx := Lib.hid hl
          have HOX := Lib.hid hown
          have hszx := hl.size
          clear hl hown
          have Hgx := Lib.hid (Hga.out.up HSx.out)
          have Hccx := Lib.hid (Hcca.out.up HSx.out)
          have HGx := Lib.hid (HGa.out.up HSx.out)
          have HHx := Lib.hid (HHa.out.up HSx.out)
          have HBx : Hid (Below w.heap.size w wx) := Lib.hid (HBa.out.trans (HSx.out.mono hsa))
          have hsx := HBx.out.size
          by_cases hit : i < la.length
          ·have hil' : (i : Int) < la.length := by omega
           obtain ⟨y, hy⟩ : ∃ y, la[i]? = some y := ⟨_, List.getElem?_eq_getElem hit⟩
           obtain ⟨E, oo, eH, hcell⟩ := HHx.out (by omega)
           subst eH
           obtain ⟨ke0, ke1, ke2, ke3, ke4⟩ := hcell i y hy
           have hEl : E < wx.heap.size := cell_lt ke0
           clear hcell
           have HY_ := Lib.hid hy
           clear hy
           obtain ⟨ys, hys⟩ : ∃ z, z = y.spot := ⟨_, rfl⟩
           rw [← hys] at ke0
           have HYS := Lib.hid hys
           clear hys
           have hix := idxs_len (spotP la k) i
           by_cases hsp : ys = (k : Int)
           ·have hpp : spotP la k i = true := by unfold spotP; rw [HY_.out]; show (y.spot == (k : Int)) = true; rw [← HYS.out]; simp [hsp]
            have HPP := Lib.hid hpp
            clear hpp
            subst hsp
            go_wp2_with (at_builtin; (refine wpList_append_own _ rfl _ _ 87 rfl wa.heap.size 3 ii (.int .i64 0) 1 8 und_ints hii hii0 hii1 hii2 rfl (by decide) _ _ _ rfl (HOX.out.up zg) ⟨_, 0, none⟩ 1 1 [.int .i64 (i : Int)] rfl rfl (cell_one_new' (by simp)) (by simp [Value.oneCell']) (by unfold maxLen; omega) (by omega) (by simp; omega) ?_); intro v5 w5_ hown5 hgrow5 _; have HO5 := Lib.hid (ints_snoc hown5); have HG5 := Lib.hid hgrow5; clear hown5 hgrow5)
            go_roundw
            case rel => exact ⟨i + 1, by go_num, by omega, (by rw [idxs_yes HPP.out]; exact HO5.out), (HSx.out.trans zg).grown HG5.out (by simp; omega) (fun k hk => row_ge HOX.out hk)⟩
            case measure => first | (simp [intOf]; done) | (simp [intOf]; omega)
           ·have hpp : spotP la k i = false := by unfold spotP; rw [HY_.out]; show (y.spot == (k : Int)) = false; rw [← HYS.out]; simp [hsp]
            have HPP := Lib.hid hpp
            clear hpp
            go_wp2_with fail
            go_roundw
            case rel => exact ⟨i + 1, by go_num, by omega, (by rw [idxs_no HPP.out]; exact HOX.out.up zg), HSx.out.trans zg⟩
            case measure => first | (simp [intOf]; done) | (simp [intOf]; omega)
          ·have hie : i = la.length := by omega
           subst hie
           obtain ⟨A9, c9, e9, hi9⟩ := ints_of_row HOX.out
           subst e9
           have HI9 := Lib.hid hi9
           clear hi9
           have hri := idxs_rising (spotP la k) la.length
           have HRW := Lib.hid hri.within
           have HRT := Lib.hid (rising_twice hri)
           have hrl := hri.len
           obtain ⟨sk, hsk⟩ : ∃ z : Bool, z = !(spotBx miss la k).empty := ⟨_, rfl⟩
           have hagk : (!(boundsOf miss (fun i => (idxs (spotP la k) la.length).contains (i : Int)) la).empty) = sk := by rw [hsk]; exact congrArg Bool.not (idxs_clash HPOS.out _)
           have HAG := Lib.hid hagk
           have HSK := Lib.hid hsk
           clear hri hsk hagk
           obtain ⟨kg0, kg1, kg2⟩ := Hgx.out.c3
           have lt_g : w2.heap.size < wx.heap.size := Hgx.out.lt
           obtain ⟨kcc0, kcc1, kcc2⟩ := Hccx.out.c3
           have lt_cc : w2.heap.size + 1 < wx.heap.size := Hccx.out.lt
           go_wp2_with fail
           refine (Agree_in err miss full emp G H' d q' gs la A9 c9 (idxs (spotP la k) la.length) _ (HGx.out.up zg) hgl' (HHx.out.up zg) hla' HE.out (HI9.out.up zg) (by omega) HRW.out HRT.out).mono ?_
           rw [HAG.out]
           rintro e w20 ⟨rfl, hb20⟩
           have Hg20 := Lib.hid (Holds.up (by have h := Hgx.out; exact zp4 : Holds _ (w2.heap.size) 24 #[.int .i64 err, .int .i64 miss, .slice G gs.length d]) hb20)
           have Hcc20 := Lib.hid (Holds.up (by have h := Hccx.out; exact zp4 : Holds _ (w2.heap.size + 1) 27 #[.int .i64 full, .int .i64 emp, .slice H' la.length q']) hb20)
           have HS20 : Hid (Below wx.heap.size wx w20) := Lib.hid (Below.trans zg (hb20.mono (by first | exact Nat.le_refl _ | omega | (simp; done) | (simp; omega))))
           have HB20 : Hid (Below w.heap.size w w20) := Lib.hid (HBx.out.trans (HS20.out.mono hsx))
           have hs20 := HB20.out.size
           have hst20 := HS20.out.size
           have HG20 := Lib.hid (HGx.out.up HS20.out)
           have HH20 := Lib.hid (HHx.out.up HS20.out)
           clear hb20
           clear kg0 kg1 kg2 lt_g kcc0 kcc1 kcc2 lt_cc
           obtain ⟨ak, hak⟩ : ∃ z, z = apTo miss la k := ⟨_, rfl⟩
           rw [← hak]
           have HAK := Lib.hid hak
           clear hak
           cases ak
           all_goals
            go_wp2_with fail
            go_roundw
            case rel => exact ⟨k + 1, (by rw [apTo_succ, ← HAK.out, ← HSK.out]; rfl), by go_num, by omega, HSa.out.trans ((HSx.out.mono hsza).trans (HS20.out.mono (Nat.le_trans hsza hszx)))⟩
            case measure => first | (simp [intOf]; done) | (simp [intOf]; omega)
       ·as_aux_lemma =>
         have hk : k = 3 := by omega
         subst hk
         clear hlt3 hk3
         obtain ⟨ak, hak⟩ : ∃ z, z = apTo miss la 3 := ⟨_, rfl⟩
         rw [← hak]
         clear hak
         cases ak
         all_goals
          as_aux_lemma =>
           go_wp2_with fail
           rename_i Kc hKc
           have HSL := Lib.hid (show slotsOf [some 140, some 141, some 142, some 143, some 144, some 145, some 146, some 147, some 148, some 139, some 149, some 150, some 25, some 17] = [140, 141, 142, 143, 144, 145, 146, 147, 148, 139, 149, 150, 25, 17] from rfl)
           refine wp_region_partsG (by kernel_rfl) [some 140, some 141, some 142, some 143, some 144, some 145, some 146, some 147, some 148, some 139, some 149, some 150, some 25, some 17] (fun jq xq w' => match jq with
            | 0 => xq 140 = .agg #[.int .i64 err, .int .i64 miss, .slice G gs.length d]
            | 1 => xq 141 = .agg #[.int .i64 full, .int .i64 emp, .slice H' la.length q']
            | 2 => xq 142 = .slice a2 len2 cap2
            | 3 => ∃ b mm, xq 143 = .pointer (some ⟨b, 0, none⟩) ∧ wa.heap.size ≤ b ∧ Holds w' b 172 #[.slice a2 len2 cap2, .int .i64 ((0 : Nat) : Int), .int .u32 mm]
            | 4 => xq 144 = .pointer (some ⟨w2.heap.size + 1, 2, none⟩)
            | 5 => xq 145 = .slice H' la.length q'
            | 6 => xq 146 = .int .i64 (la.length : Int)
            | 7 => ∃ A c xs, xq 147 = .slice A xs.length c ∧ IntsAt w' A xs ∧ Shuffled la.length xs
            | 8 => xq 148 = .tuple #[.bool true, .int .i64 0]
            | 9 => xq 139 = .tuple #[.bool true, .int .i64 0]
            | 10 => xq 149 = .bool true
            | 11 => xq 150 = .int .i64 0
            | 12 => xq 25 = .bool true
            | 13 => xq 17 = .int .i64 0
            | _ => True) [[140], [141], [142], [143], [144], [145], [146], [147], [148], [139], [149], [150], [25], [17]] [(7, 3)] (fun w' => Below wa.heap.size wa w') (by kernel_rfl)  ?_ ?_ (fun w' w'' hb h => h.trans (hb.mono h.size)) (Below.refl _ _) ?_ ?_ ?_
           ·intro jq xq xq' wqq h hv
            match jq, h, hv with
            | 0, h, hv => show xq' 140 = .agg #[.int .i64 err, .int .i64 miss, .slice G gs.length d]; rw [← h 140 (by decide)]; exact hv
            | 1, h, hv => show xq' 141 = .agg #[.int .i64 full, .int .i64 emp, .slice H' la.length q']; rw [← h 141 (by decide)]; exact hv
            | 2, h, hv => show xq' 142 = .slice a2 len2 cap2; rw [← h 142 (by decide)]; exact hv
            | 3, h, hv => show ∃ b mm, xq' 143 = .pointer (some ⟨b, 0, none⟩) ∧ wa.heap.size ≤ b ∧ Holds wqq b 172 #[.slice a2 len2 cap2, .int .i64 ((0 : Nat) : Int), .int .u32 mm]; rw [← h 143 (by decide)]; exact hv
            | 4, h, hv => show xq' 144 = .pointer (some ⟨w2.heap.size + 1, 2, none⟩); rw [← h 144 (by decide)]; exact hv
            | 5, h, hv => show xq' 145 = .slice H' la.length q'; rw [← h 145 (by decide)]; exact hv
            | 6, h, hv => show xq' 146 = .int .i64 (la.length : Int); rw [← h 146 (by decide)]; exact hv
            | 7, h, hv => show ∃ A c xs, xq' 147 = .slice A xs.length c ∧ IntsAt wqq A xs ∧ Shuffled la.length xs; rw [← h 147 (by decide)]; exact hv
            | 8, h, hv => show xq' 148 = .tuple #[.bool true, .int .i64 0]; rw [← h 148 (by decide)]; exact hv
            | 9, h, hv => show xq' 139 = .tuple #[.bool true, .int .i64 0]; rw [← h 139 (by decide)]; exact hv
            | 10, h, hv => show xq' 149 = .bool true; rw [← h 149 (by decide)]; exact hv
            | 11, h, hv => show xq' 150 = .int .i64 0; rw [← h 150 (by decide)]; exact hv
            | 12, h, hv => show xq' 25 = .bool true; rw [← h 25 (by decide)]; exact hv
            | 13, h, hv => show xq' 17 = .int .i64 0; rw [← h 17 (by decide)]; exact hv
            | _ + 14, _, _ => trivial
           ·intro jq xq wqq w' hb' hv
            match jq, hv with
            | 0, hv => exact hv
            | 1, hv => exact hv
            | 2, hv => exact hv
            | 3, ⟨b0, b1, h0, h1, h2⟩ => exact ⟨b0, b1, h0, h1, h2.up hb'⟩
            | 4, hv => exact hv
            | 5, hv => exact hv
            | 6, hv => exact hv
            | 7, ⟨b0, b1, b2, h0, h1, h2⟩ => exact ⟨b0, b1, b2, h0, h1.up hb', h2⟩
            | 8, hv => exact hv
            | 9, hv => exact hv
            | 10, hv => exact hv
            | 11, hv => exact hv
            | 12, hv => exact hv
            | 13, hv => exact hv
            | _ + 14, _ => trivial
           ·intro jq hj
            match jq, hj with
            | 0, hj => exact absurd hj (by decide)
            | 1, hj => exact absurd hj (by decide)
            | 2, hj => exact absurd hj (by decide)
            | 3, hj => exact absurd hj (by decide)
            | 4, hj => exact absurd hj (by decide)
            | 5, hj => exact absurd hj (by decide)
            | 6, hj => exact absurd hj (by decide)
            | 7, hj => exact absurd hj (by decide)
            | 8, hj => exact absurd hj (by decide)
            | 9, hj => exact absurd hj (by decide)
            | 10, hj => exact absurd hj (by decide)
            | 11, hj => exact absurd hj (by decide)
            | 12, hj => exact absurd hj (by decide)
            | 13, hj => exact absurd hj (by decide)
            | _ + 14, _ => trivial
           ·refine ⟨?_, ?_, ?_, ?_, ?_, ?_, ?_, ?_, ?_, ?_, ?_, ?_, ?_, ?_, trivial⟩
            ·intro xq w21 hb21 hx K hK0
             have hK := fun v w' hb => hK0 v w' (.inl hb)
             clear hx hKc hK0
             obtain ⟨kg0, kg1, kg2⟩ := (Hga.out.up hb21).c3
             simp only [frameOf, fill, setSlot, sg, Nat.reduceBEq, if_true, if_false, Nat.reduceAdd, Nat.reduceEqDiff, HSL.out] at hK ⊢
             go_wp2_with (fail)
             exact hK _ _ (Below.refl _ _) rfl
            ·intro xq w21 hb21 hx K hK0
             have hK := fun v w' hb => hK0 v w' (.inl hb)
             clear hx hKc hK0
             obtain ⟨kcc0, kcc1, kcc2⟩ := (Hcca.out.up hb21).c3
             simp only [frameOf, fill, setSlot, sg, Nat.reduceBEq, if_true, if_false, Nat.reduceAdd, Nat.reduceEqDiff, HSL.out] at hK ⊢
             go_wp2_with (fail)
             exact hK _ _ (Below.refl _ _) rfl
            ·intro xq w21 hb21 hx K hK0
             have hK := fun v w' hb => hK0 v w' (.inl hb)
             clear hx hKc hK0
             simp only [frameOf, fill, setSlot, sg, Nat.reduceBEq, if_true, if_false, Nat.reduceAdd, Nat.reduceEqDiff, HSL.out] at hK ⊢
             go_wp2_with (fail)
             exact hK _ _ (Below.refl _ _) rfl
            ·intro xq w21 hb21 hx K hK0
             have hK := fun v w' hb => hK0 v w' (.inl hb)
             have e142 : xq 142 = .slice a2 len2 cap2 := hx 2 (by rfl) (by rfl)
             clear hx hKc hK0
             simp only [frameOf, fill, setSlot, sg, Nat.reduceBEq, if_true, if_false, Nat.reduceAdd, Nat.reduceEqDiff, HSL.out] at hK ⊢
             simp only [e142] at hK ⊢
             clear e142
             go_wp2_with (go_at_call 63; refine (Fill_any a2 len2 cap2 _ hn2).mono ?_; rintro e w2_ ⟨mm, rfl, hS_, hb_⟩)
             exact hK _ _ hb_ ⟨_, _, rfl, hb21.size, hS_⟩
            ·intro xq w21 hb21 hx K hK0
             have hK := fun v w' hb => hK0 v w' (.inl hb)
             clear hx hKc hK0
             simp only [frameOf, fill, setSlot, sg, Nat.reduceBEq, if_true, if_false, Nat.reduceAdd, Nat.reduceEqDiff, HSL.out] at hK ⊢
             go_wp2_with (fail)
             exact hK _ _ (Below.refl _ _) rfl
            ·intro xq w21 hb21 hx K hK0
             have hK := fun v w' hb => hK0 v w' (.inl hb)
             have e144 : xq 144 = .pointer (some ⟨w2.heap.size + 1, 2, none⟩) := hx 4 (by rfl) (by rfl)
             clear hx hKc hK0
             obtain ⟨kcc0, kcc1, kcc2⟩ := (Hcca.out.up hb21).c3
             simp only [frameOf, fill, setSlot, sg, Nat.reduceBEq, if_true, if_false, Nat.reduceAdd, Nat.reduceEqDiff, HSL.out] at hK ⊢
             simp only [e144] at hK ⊢
             clear e144
             go_wp2_with (fail)
             exact hK _ _ (Below.refl _ _) rfl
            ·intro xq w21 hb21 hx K hK0
             have hK := fun v w' hb => hK0 v w' (.inl hb)
             have e145 : xq 145 = .slice H' la.length q' := hx 5 (by rfl) (by rfl)
             clear hx hKc hK0
             simp only [frameOf, fill, setSlot, sg, Nat.reduceBEq, if_true, if_false, Nat.reduceAdd, Nat.reduceEqDiff, HSL.out] at hK ⊢
             simp only [e145] at hK ⊢
             clear e145
             go_wp2_with (fail)
             exact hK _ _ (Below.refl _ _) rfl
            ·intro xq w21 hb21 hx K hK0
             have hK := fun v w' hb => hK0 v w' (.inr hb)
             obtain ⟨b143, mm143, e143, f143_0, f143_1⟩ := hx 3 (by rfl) (by rfl)
             have e146 : xq 146 = .int .i64 (la.length : Int) := hx 6 (by rfl) (by rfl)
             clear hx hKc hK0
             simp only [frameOf, fill, setSlot, sg, Nat.reduceBEq, if_true, if_false, Nat.reduceAdd, Nat.reduceEqDiff, HSL.out] at hK ⊢
             simp only [e143, e146] at hK ⊢
             clear e143 e146
             go_wp2_with (go_at_call 75; refine (Shuffle_any b143 a2 len2 cap2 0 la.length mm143 _ f143_1 (fun w' hb => HYO.out.up (HBa.out.trans ((hb21.mono hsa).trans (hb.mono (Nat.le_trans hsa f143_0))))) hn2 (by decide) hla').mono ?_; rintro e w2_ ⟨v, xs, rfl, hsh, how, hb_⟩; obtain ⟨A, c, rfl, hi⟩ := ints_of_row how)
             refine hK _ _ ⟨(hb21.trans (hb_.mono f143_0)), ?_⟩ ⟨_, _, _, rfl, hi, hsh⟩
             intro jq xq hd hne hv
             match jq, hd, hne, hv with
             | 0, _, _, hv => exact hv
             | 1, _, _, hv => exact hv
             | 2, _, _, hv => exact hv
             | 3, hd, _, _ => exact absurd hd (by decide)
             | 4, _, _, hv => exact hv
             | 5, _, _, hv => exact hv
             | 6, _, _, hv => exact hv
             | 7, _, hne, _ => exact absurd rfl hne
             | 8, _, _, hv => exact hv
             | 9, _, _, hv => exact hv
             | 10, _, _, hv => exact hv
             | 11, _, _, hv => exact hv
             | 12, _, _, hv => exact hv
             | 13, _, _, hv => exact hv
             | _ + 14, _, _, _ => trivial
            ·intro xq w21 hb21 hx K hK0
             have hK := fun v w' hb => hK0 v w' (.inl hb)
             have e140 : xq 140 = .agg #[.int .i64 err, .int .i64 miss, .slice G gs.length d] := hx 0 (by rfl) (by rfl)
             have e141 : xq 141 = .agg #[.int .i64 full, .int .i64 emp, .slice H' la.length q'] := hx 1 (by rfl) (by rfl)
             obtain ⟨A147, c147, xs147, e147, f147_0, f147_1⟩ := hx 7 (by rfl) (by rfl)
             clear hx hKc hK0
             simp only [frameOf, fill, setSlot, sg, Nat.reduceBEq, if_true, if_false, Nat.reduceAdd, Nat.reduceEqDiff, HSL.out] at hK ⊢
             simp only [e140, e141, e147] at hK ⊢
             clear e140 e141 e147
             go_wp2_with (go_at_call 51; refine (Agree_in err miss full emp G H' d q' gs la A147 c147 xs147 _ (HGa.out.up hb21) hgl' (HHa.out.up hb21) hla' HE.out f147_0 (by rw [f147_1.len]; omega) (shuf_in f147_1) (shuf_twice f147_1)).mono ?_; rw [shuf_agree HPOS.out f147_1, HEM.out]; rintro e w2_ ⟨rfl, hb_⟩)
             exact hK _ _ hb_ rfl
            ·intro xq w21 hb21 hx K hK0
             have hK := fun v w' hb => hK0 v w' (.inl hb)
             have e148 : xq 148 = .tuple #[.bool true, .int .i64 0] := hx 8 (by rfl) (by rfl)
             clear hx hKc hK0
             simp only [frameOf, fill, setSlot, sg, Nat.reduceBEq, if_true, if_false, Nat.reduceAdd, Nat.reduceEqDiff, HSL.out] at hK ⊢
             simp only [e148] at hK ⊢
             clear e148
             go_wp2_with (fail)
             exact hK _ _ (Below.refl _ _) rfl
            ·intro xq w21 hb21 hx K hK0
             have hK := fun v w' hb => hK0 v w' (.inl hb)
             have e139 : xq 139 = .tuple #[.bool true, .int .i64 0] := hx 9 (by rfl) (by rfl)
             clear hx hKc hK0
             simp only [frameOf, fill, setSlot, sg, Nat.reduceBEq, if_true, if_false, Nat.reduceAdd, Nat.reduceEqDiff, HSL.out] at hK ⊢
             simp only [e139] at hK ⊢
             clear e139
             go_wp2_with (fail)
             exact hK _ _ (Below.refl _ _) rfl
            ·intro xq w21 hb21 hx K hK0
             have hK := fun v w' hb => hK0 v w' (.inl hb)
             have e139 : xq 139 = .tuple #[.bool true, .int .i64 0] := hx 9 (by rfl) (by rfl)
             clear hx hKc hK0
             simp only [frameOf, fill, setSlot, sg, Nat.reduceBEq, if_true, if_false, Nat.reduceAdd, Nat.reduceEqDiff, HSL.out] at hK ⊢
             simp only [e139] at hK ⊢
             clear e139
             go_wp2_with (fail)
             exact hK _ _ (Below.refl _ _) rfl
            ·intro xq w21 hb21 hx K hK0
             have hK := fun v w' hb => hK0 v w' (.inl hb)
             have e149 : xq 149 = .bool true := hx 10 (by rfl) (by rfl)
             clear hx hKc hK0
             simp only [frameOf, fill, setSlot, sg, Nat.reduceBEq, if_true, if_false, Nat.reduceAdd, Nat.reduceEqDiff, HSL.out] at hK ⊢
             simp only [e149] at hK ⊢
             clear e149
             go_wp2_with (fail)
             exact hK _ _ (Below.refl _ _) rfl
            ·intro xq w21 hb21 hx K hK0
             have hK := fun v w' hb => hK0 v w' (.inl hb)
             have e150 : xq 150 = .int .i64 0 := hx 11 (by rfl) (by rfl)
             clear hx hKc hK0
             simp only [frameOf, fill, setSlot, sg, Nat.reduceBEq, if_true, if_false, Nat.reduceAdd, Nat.reduceEqDiff, HSL.out] at hK ⊢
             simp only [e150] at hK ⊢
             clear e150
             go_wp2_with (fail)
             exact hK _ _ (Below.refl _ _) rfl
           ·intro xq w21 hb21 hx
            have e140 : xq 140 = .agg #[.int .i64 err, .int .i64 miss, .slice G gs.length d] := hx 0 (by decide)
            have e141 : xq 141 = .agg #[.int .i64 full, .int .i64 emp, .slice H' la.length q'] := hx 1 (by decide)
            have e142 : xq 142 = .slice a2 len2 cap2 := hx 2 (by decide)
            have e144 : xq 144 = .pointer (some ⟨w2.heap.size + 1, 2, none⟩) := hx 4 (by decide)
            have e145 : xq 145 = .slice H' la.length q' := hx 5 (by decide)
            have e146 : xq 146 = .int .i64 (la.length : Int) := hx 6 (by decide)
            obtain ⟨A147, c147, xs147, e147, f147_0, f147_1⟩ := hx 7 (by decide)
            have e148 : xq 148 = .tuple #[.bool true, .int .i64 0] := hx 8 (by decide)
            have e139 : xq 139 = .tuple #[.bool true, .int .i64 0] := hx 9 (by decide)
            have e149 : xq 149 = .bool true := hx 10 (by decide)
            have e150 : xq 150 = .int .i64 0 := hx 11 (by decide)
            have e25 : xq 25 = .bool true := hx 12 (by decide)
            have e17 : xq 17 = .int .i64 0 := hx 13 (by decide)
            clear hx
            simp only [frameOf, fill, setSlot, sg, Nat.reduceBEq, if_true, if_false, Nat.reduceAdd, Nat.reduceEqDiff, HSL.out]
            simp only [e140, e141, e142, e144, e145, e146, e147, e148, e139, e149, e150, e25, e17]
            clear e140 e141 e142 e144 e145 e146 e147 e148 e139 e149 e150 e25 e17
            refine hKc _ _ ?_
            have HS21 := Lib.hid hb21
            have HB21 : Hid (Below w.heap.size w w21) := Lib.hid (HBa.out.trans (hb21.mono hsa))
            have hs21 := HB21.out.size
            have hst21 := hb21.size
            clear hb21
            have Hg21 := Lib.hid (Hga.out.up HS21.out)
            have Hcc21 := Lib.hid (Hcca.out.up HS21.out)
            have HG21 := Lib.hid (HGa.out.up HS21.out)
            have HH21 := Lib.hid (HHa.out.up HS21.out)
            go_wp2_with fail
            refine (awake_any _).mono ?_
            rintro e w40 ⟨rfl, hb40⟩
            go_wp2_with fail
            go_ret
            exact ⟨rfl, HB21.out.trans (hb40.mono hs21)⟩
    | true =>
     as_aux_lemma =>
      have HEM := Lib.hid hem
      obtain ⟨hcr, hcc, hc1, hc4⟩ := clash_yes HPOS.out hem
      obtain ⟨l, hl0⟩ : ∃ z, z = clashOf miss la := ⟨_, rfl⟩
      have hcd : ∀ i, i < (clashOf miss la).length → _ := fun i hi => clash_drop HPOS.out hcr hi
      rw [← hl0] at hcr hcc hc1 hc4 hcd
      have htp : toppedOf miss la = apTo miss la 3 := topped_ap hem
      have HTP := Lib.hid htp
      have HL0 := Lib.hid hl0
      have HCR := Lib.hid hcr
      have HCC := Lib.hid hcc
      have HCD := Lib.hid hcd
      have hc1' : (1 : Int) ≤ l.length := by omega
      have hc4' : (l.length : Int) ≤ 4 := by omega
      have hll : l.length ≤ 1000 := by omega
      clear hem htp hl0 hcr hcc hcd
      obtain ⟨kg0, kg1, kg2⟩ := Hgr.out.c3
      have lt_g : w2.heap.size < wr.heap.size := Hgr.out.lt
      obtain ⟨kcc0, kcc1, kcc2⟩ := Hccr.out.c3
      have lt_cc : w2.heap.size + 1 < wr.heap.size := Hccr.out.lt
      go_wp2_with fail
      refine (Mixture_clash err miss full emp G H' d q' gs la _ (HGr.out.up zg) hgl' (HHr.out.up zg) hla' HE.out HEM.out).mono ?_
      rintro e w7 ⟨rfl, hb7⟩
      have Hg7 := Lib.hid (Holds.up (by have h := Hgr.out; exact zp4 : Holds _ (w2.heap.size) 24 #[.int .i64 err, .int .i64 miss, .slice G gs.length d]) hb7)
      have Hcc7 := Lib.hid (Holds.up (by have h := Hccr.out; exact zp4 : Holds _ (w2.heap.size + 1) 27 #[.int .i64 full, .int .i64 emp, .slice H' la.length q']) hb7)
      have HS7 : Hid (Below wr.heap.size wr w7) := Lib.hid (Below.trans zg (hb7.mono (by first | exact Nat.le_refl _ | omega | (simp; done) | (simp; omega))))
      have HB7 : Hid (Below w.heap.size w w7) := Lib.hid (HBr.out.trans (HS7.out.mono hsr))
      have hs7 := HB7.out.size
      have hst7 := HS7.out.size
      have HG7 := Lib.hid (HGr.out.up HS7.out)
      have HH7 := Lib.hid (HHr.out.up HS7.out)
      clear hb7
      clear kg0 kg1 kg2 lt_g kcc0 kcc1 kcc2 lt_cc
      obtain ⟨kg0, kg1, kg2⟩ := Hg7.out.c3
      have lt_g : w2.heap.size < w7.heap.size := Hg7.out.lt
      obtain ⟨kcc0, kcc1, kcc2⟩ := Hcc7.out.c3
      have lt_cc : w2.heap.size + 1 < w7.heap.size := Hcc7.out.lt
      go_wp2_with fail
      refine (Clash_ok err miss full emp G H' d q' gs la _ (HG7.out.up zg) hgl' (HH7.out.up zg) hla' HE.out).mono ?_
      rintro e w8 ⟨v8, rfl, hown, hb8⟩
      have Hg8 := Lib.hid (Holds.up (by have h := Hg7.out; exact zp4 : Holds _ (w2.heap.size) 24 #[.int .i64 err, .int .i64 miss, .slice G gs.length d]) hb8)
      have Hcc8 := Lib.hid (Holds.up (by have h := Hcc7.out; exact zp4 : Holds _ (w2.heap.size + 1) 27 #[.int .i64 full, .int .i64 emp, .slice H' la.length q']) hb8)
      have HS8 : Hid (Below w7.heap.size w7 w8) := Lib.hid (Below.trans zg (hb8.mono (by first | exact Nat.le_refl _ | omega | (simp; done) | (simp; omega))))
      have HB8 : Hid (Below w.heap.size w w8) := Lib.hid (HB7.out.trans (HS8.out.mono hs7))
      have hs8 := HB8.out.size
      have hst8 := HS8.out.size
      have HG8 := Lib.hid (HG7.out.up HS8.out)
      have HH8 := Lib.hid (HH7.out.up HS8.out)
      clear hb8
      rw [← HL0.out] at hown
      obtain ⟨A8, c8, e8, hi8⟩ := ints_of_row hown
      subst e8
      have HL8 := Lib.hid hown
      have HI8 := Lib.hid hi8
      clear hown hi8
      rw [← HL0.out, if_neg (by omega)]
      clear kg0 kg1 kg2 lt_g kcc0 kcc1 kcc2 lt_cc
      obtain ⟨kg0, kg1, kg2⟩ := Hg8.out.c3
      have lt_g : w2.heap.size < w8.heap.size := Hg8.out.lt
      obtain ⟨kcc0, kcc1, kcc2⟩ := Hcc8.out.c3
      have lt_cc : w2.heap.size + 1 < w8.heap.size := Hcc8.out.lt
      go_wp2_with fail
      refine (Topped_ok err miss full emp G H' d q' gs la _ (HG8.out.up zg) hgl' (HH8.out.up zg) hla' HE.out).mono ?_
      rw [HTP.out]
      rintro e w9 ⟨rfl, hb9⟩
      have Hg9 := Lib.hid (Holds.up (by have h := Hg8.out; exact zp4 : Holds _ (w2.heap.size) 24 #[.int .i64 err, .int .i64 miss, .slice G gs.length d]) hb9)
      have Hcc9 := Lib.hid (Holds.up (by have h := Hcc8.out; exact zp4 : Holds _ (w2.heap.size + 1) 27 #[.int .i64 full, .int .i64 emp, .slice H' la.length q']) hb9)
      have HS9 : Hid (Below w8.heap.size w8 w9) := Lib.hid (Below.trans zg (hb9.mono (by first | exact Nat.le_refl _ | omega | (simp; done) | (simp; omega))))
      have HB9 : Hid (Below w.heap.size w w9) := Lib.hid (HB8.out.trans (HS9.out.mono hs8))
      have hs9 := HB9.out.size
      have hst9 := HS9.out.size
      have HG9 := Lib.hid (HG8.out.up HS9.out)
      have HH9 := Lib.hid (HH8.out.up HS9.out)
      have HL9 := Lib.hid (HL8.out.up HS9.out)
      have HI9 := Lib.hid (HI8.out.up HS9.out)
      clear hb9
      clear kg0 kg1 kg2 lt_g kcc0 kcc1 kcc2 lt_cc
      obtain ⟨tb, htb⟩ : ∃ z, z = apTo miss la 3 := ⟨_, rfl⟩
      rw [← htb]
      have HTB := Lib.hid htb
      clear htb
      go_wp2_with fail
      go_loopw [18, 98] (fun v18 v98 wz => ∃ k : Nat, v18 = .bool (apTo miss la k) ∧ v98 = .int .i64 (k : Int) ∧ k ≤ 3 ∧ Below w9.heap.size w9 wz) (fun _ v98 _ => 3 - (intOf v98).toNat)
      case atStart => exact ⟨0, rfl, rfl, by decide, Below.refl _ _⟩
      case round =>
       rename World => wa
       obtain ⟨k, rfl, rfl, hk3, hl⟩ := hrel
       have HSa := Lib.hid hl
       have hsza := hl.size
       clear hl
       have Hga := Lib.hid (Hg9.out.up HSa.out)
       have Hcca := Lib.hid (Hcc9.out.up HSa.out)
       have HGa := Lib.hid (HG9.out.up HSa.out)
       have HHa := Lib.hid (HH9.out.up HSa.out)
       have HLa := Lib.hid (HL9.out.up HSa.out)
       have HIa := Lib.hid (HI9.out.up HSa.out)
       have HBa : Hid (Below w.heap.size w wa) := Lib.hid (HB9.out.trans (HSa.out.mono hs9))
       have hsa := HBa.out.size
       by_cases hlt3 : k < 3
       ·as_aux_lemma =>
         have hk3' : (k : Int) < 3 := by omega
         obtain ⟨kcc0, kcc1, kcc2⟩ := Hcca.out.c3
         have lt_cc : w2.heap.size + 1 < wa.heap.size := Hcca.out.lt
         go_wp2_with fail
         clear kcc0 kcc1 kcc2 lt_cc
         go_loopw [20, 104] (fun v20 v104 wz => ∃ i : Nat, v104 = .int .i64 (i : Int) ∧ i ≤ la.length ∧ OwnInts wz wa.heap.size v20 (idxs (spotP la k) i) ∧ Below wa.heap.size wa wz) (fun _ v104 _ => la.length - (intOf v104).toNat)
         case atStart => exact ⟨0, rfl, Nat.zero_le _, ⟨rfl, .inl ⟨rfl, rfl⟩⟩, zg⟩
         case round =>
          rename World => wx
          obtain ⟨i, rfl, hil, hown, hl⟩ := hrel
          have HSx := Lib.hid hl
          have HOX := Lib.hid hown
          have hszx := hl.size
          clear hl hown
          have Hgx := Lib.hid (Hga.out.up HSx.out)
          have Hccx := Lib.hid (Hcca.out.up HSx.out)
          have HGx := Lib.hid (HGa.out.up HSx.out)
          have HHx := Lib.hid (HHa.out.up HSx.out)
          have HLx := Lib.hid (HLa.out.up HSx.out)
          have HIx := Lib.hid (HIa.out.up HSx.out)
          have HBx : Hid (Below w.heap.size w wx) := Lib.hid (HBa.out.trans (HSx.out.mono hsa))
          have hsx := HBx.out.size
          by_cases hit : i < la.length
          ·have hil' : (i : Int) < la.length := by omega
           obtain ⟨y, hy⟩ : ∃ y, la[i]? = some y := ⟨_, List.getElem?_eq_getElem hit⟩
           obtain ⟨E, oo, eH, hcell⟩ := HHx.out (by omega)
           subst eH
           obtain ⟨ke0, ke1, ke2, ke3, ke4⟩ := hcell i y hy
           have hEl : E < wx.heap.size := cell_lt ke0
           clear hcell
           have HY_ := Lib.hid hy
           clear hy
           obtain ⟨ys, hys⟩ : ∃ z, z = y.spot := ⟨_, rfl⟩
           rw [← hys] at ke0
           have HYS := Lib.hid hys
           clear hys
           have hix := idxs_len (spotP la k) i
           by_cases hsp : ys = (k : Int)
           ·have hpp : spotP la k i = true := by unfold spotP; rw [HY_.out]; show (y.spot == (k : Int)) = true; rw [← HYS.out]; simp [hsp]
            have HPP := Lib.hid hpp
            clear hpp
            subst hsp
            go_wp2_with (at_builtin; (refine wpList_append_own _ rfl _ _ 87 rfl wa.heap.size 3 ii (.int .i64 0) 1 8 und_ints hii hii0 hii1 hii2 rfl (by decide) _ _ _ rfl (HOX.out.up zg) ⟨_, 0, none⟩ 1 1 [.int .i64 (i : Int)] rfl rfl (cell_one_new' (by simp)) (by simp [Value.oneCell']) (by unfold maxLen; omega) (by omega) (by simp; omega) ?_); intro v5 w5_ hown5 hgrow5 _; have HO5 := Lib.hid (ints_snoc hown5); have HG5 := Lib.hid hgrow5; clear hown5 hgrow5)
            go_roundw
            case rel => exact ⟨i + 1, by go_num, by omega, (by rw [idxs_yes HPP.out]; exact HO5.out), (HSx.out.trans zg).grown HG5.out (by simp; omega) (fun k hk => row_ge HOX.out hk)⟩
            case measure => first | (simp [intOf]; done) | (simp [intOf]; omega)
           ·have hpp : spotP la k i = false := by unfold spotP; rw [HY_.out]; show (y.spot == (k : Int)) = false; rw [← HYS.out]; simp [hsp]
            have HPP := Lib.hid hpp
            clear hpp
            go_wp2_with fail
            go_roundw
            case rel => exact ⟨i + 1, by go_num, by omega, (by rw [idxs_no HPP.out]; exact HOX.out.up zg), HSx.out.trans zg⟩
            case measure => first | (simp [intOf]; done) | (simp [intOf]; omega)
          ·have hie : i = la.length := by omega
           subst hie
           obtain ⟨A9, c9, e9, hi9⟩ := ints_of_row HOX.out
           subst e9
           have HI9 := Lib.hid hi9
           clear hi9
           have hri := idxs_rising (spotP la k) la.length
           have HRW := Lib.hid hri.within
           have HRT := Lib.hid (rising_twice hri)
           have hrl := hri.len
           obtain ⟨sk, hsk⟩ : ∃ z : Bool, z = !(spotBx miss la k).empty := ⟨_, rfl⟩
           have hagk : (!(boundsOf miss (fun i => (idxs (spotP la k) la.length).contains (i : Int)) la).empty) = sk := by rw [hsk]; exact congrArg Bool.not (idxs_clash HPOS.out _)
           have HAG := Lib.hid hagk
           have HSK := Lib.hid hsk
           clear hri hsk hagk
           obtain ⟨kg0, kg1, kg2⟩ := Hgx.out.c3
           have lt_g : w2.heap.size < wx.heap.size := Hgx.out.lt
           obtain ⟨kcc0, kcc1, kcc2⟩ := Hccx.out.c3
           have lt_cc : w2.heap.size + 1 < wx.heap.size := Hccx.out.lt
           go_wp2_with fail
           refine (Agree_in err miss full emp G H' d q' gs la A9 c9 (idxs (spotP la k) la.length) _ (HGx.out.up zg) hgl' (HHx.out.up zg) hla' HE.out (HI9.out.up zg) (by omega) HRW.out HRT.out).mono ?_
           rw [HAG.out]
           rintro e w20 ⟨rfl, hb20⟩
           have Hg20 := Lib.hid (Holds.up (by have h := Hgx.out; exact zp4 : Holds _ (w2.heap.size) 24 #[.int .i64 err, .int .i64 miss, .slice G gs.length d]) hb20)
           have Hcc20 := Lib.hid (Holds.up (by have h := Hccx.out; exact zp4 : Holds _ (w2.heap.size + 1) 27 #[.int .i64 full, .int .i64 emp, .slice H' la.length q']) hb20)
           have HS20 : Hid (Below wx.heap.size wx w20) := Lib.hid (Below.trans zg (hb20.mono (by first | exact Nat.le_refl _ | omega | (simp; done) | (simp; omega))))
           have HB20 : Hid (Below w.heap.size w w20) := Lib.hid (HBx.out.trans (HS20.out.mono hsx))
           have hs20 := HB20.out.size
           have hst20 := HS20.out.size
           have HG20 := Lib.hid (HGx.out.up HS20.out)
           have HH20 := Lib.hid (HHx.out.up HS20.out)
           have HL20 := Lib.hid (HLx.out.up HS20.out)
           have HI20 := Lib.hid (HIx.out.up HS20.out)
           clear hb20
           clear kg0 kg1 kg2 lt_g kcc0 kcc1 kcc2 lt_cc
           obtain ⟨ak, hak⟩ : ∃ z, z = apTo miss la k := ⟨_, rfl⟩
           rw [← hak]
           have HAK := Lib.hid hak
           clear hak
           cases ak
           all_goals
            go_wp2_with fail
            go_roundw
            case rel => exact ⟨k + 1, (by rw [apTo_succ, ← HAK.out, ← HSK.out]; rfl), by go_num, by omega, HSa.out.trans ((HSx.out.mono hsza).trans (HS20.out.mono (Nat.le_trans hsza hszx)))⟩
            case measure => first | (simp [intOf]; done) | (simp [intOf]; omega)
       ·as_aux_lemma =>
         have hk : k = 3 := by omega
         subst hk
         clear hlt3 hk3
         rw [← HTB.out]
         cases tb
         all_goals
          as_aux_lemma =>
           go_wp2_with fail
           rename_i Kc hKc
           have HSL := Lib.hid (show slotsOf [some 140, some 141, some 142, some 143, some 144, some 145, some 146, some 147, some 148, some 139, some 149, some 150, some 25, some 17] = [140, 141, 142, 143, 144, 145, 146, 147, 148, 139, 149, 150, 25, 17] from rfl)
           refine wp_region_partsG (by kernel_rfl) [some 140, some 141, some 142, some 143, some 144, some 145, some 146, some 147, some 148, some 139, some 149, some 150, some 25, some 17] (fun jq xq w' => match jq with
            | 0 => xq 140 = .agg #[.int .i64 err, .int .i64 miss, .slice G gs.length d]
            | 1 => xq 141 = .agg #[.int .i64 full, .int .i64 emp, .slice H' la.length q']
            | 2 => xq 142 = .slice a2 len2 cap2
            | 3 => ∃ b mm, xq 143 = .pointer (some ⟨b, 0, none⟩) ∧ wa.heap.size ≤ b ∧ Holds w' b 172 #[.slice a2 len2 cap2, .int .i64 ((0 : Nat) : Int), .int .u32 mm]
            | 4 => xq 144 = .pointer (some ⟨w2.heap.size + 1, 2, none⟩)
            | 5 => xq 145 = .slice H' la.length q'
            | 6 => xq 146 = .int .i64 (la.length : Int)
            | 7 => ∃ A c xs, xq 147 = .slice A xs.length c ∧ IntsAt w' A xs ∧ Shuffled la.length xs
            | 8 => xq 148 = .tuple #[.bool false, .int .i64 0]
            | 9 => xq 139 = .tuple #[.bool false, .int .i64 0]
            | 10 => xq 149 = .bool false
            | 11 => xq 150 = .int .i64 0
            | 12 => xq 25 = .bool false
            | 13 => xq 17 = .int .i64 0
            | _ => True) [[140], [141], [142], [143], [144], [145], [146], [147], [148], [139], [149], [150], [25], [17]] [(7, 3)] (fun w' => Below wa.heap.size wa w') (by kernel_rfl)  ?_ ?_ (fun w' w'' hb h => h.trans (hb.mono h.size)) (Below.refl _ _) ?_ ?_ ?_
           ·intro jq xq xq' wqq h hv
            match jq, h, hv with
            | 0, h, hv => show xq' 140 = .agg #[.int .i64 err, .int .i64 miss, .slice G gs.length d]; rw [← h 140 (by decide)]; exact hv
            | 1, h, hv => show xq' 141 = .agg #[.int .i64 full, .int .i64 emp, .slice H' la.length q']; rw [← h 141 (by decide)]; exact hv
            | 2, h, hv => show xq' 142 = .slice a2 len2 cap2; rw [← h 142 (by decide)]; exact hv
            | 3, h, hv => show ∃ b mm, xq' 143 = .pointer (some ⟨b, 0, none⟩) ∧ wa.heap.size ≤ b ∧ Holds wqq b 172 #[.slice a2 len2 cap2, .int .i64 ((0 : Nat) : Int), .int .u32 mm]; rw [← h 143 (by decide)]; exact hv
            | 4, h, hv => show xq' 144 = .pointer (some ⟨w2.heap.size + 1, 2, none⟩); rw [← h 144 (by decide)]; exact hv
            | 5, h, hv => show xq' 145 = .slice H' la.length q'; rw [← h 145 (by decide)]; exact hv
            | 6, h, hv => show xq' 146 = .int .i64 (la.length : Int); rw [← h 146 (by decide)]; exact hv
            | 7, h, hv => show ∃ A c xs, xq' 147 = .slice A xs.length c ∧ IntsAt wqq A xs ∧ Shuffled la.length xs; rw [← h 147 (by decide)]; exact hv
            | 8, h, hv => show xq' 148 = .tuple #[.bool false, .int .i64 0]; rw [← h 148 (by decide)]; exact hv
            | 9, h, hv => show xq' 139 = .tuple #[.bool false, .int .i64 0]; rw [← h 139 (by decide)]; exact hv
            | 10, h, hv => show xq' 149 = .bool false; rw [← h 149 (by decide)]; exact hv
            | 11, h, hv => show xq' 150 = .int .i64 0; rw [← h 150 (by decide)]; exact hv
            | 12, h, hv => show xq' 25 = .bool false; rw [← h 25 (by decide)]; exact hv
            | 13, h, hv => show xq' 17 = .int .i64 0; rw [← h 17 (by decide)]; exact hv
            | _ + 14, _, _ => trivial
           ·intro jq xq wqq w' hb' hv
            match jq, hv with
            | 0, hv => exact hv
            | 1, hv => exact hv
            | 2, hv => exact hv
            | 3, ⟨b0, b1, h0, h1, h2⟩ => exact ⟨b0, b1, h0, h1, h2.up hb'⟩
            | 4, hv => exact hv
            | 5, hv => exact hv
            | 6, hv => exact hv
            | 7, ⟨b0, b1, b2, h0, h1, h2⟩ => exact ⟨b0, b1, b2, h0, h1.up hb', h2⟩
            | 8, hv => exact hv
            | 9, hv => exact hv
            | 10, hv => exact hv
            | 11, hv => exact hv
            | 12, hv => exact hv
            | 13, hv => exact hv
            | _ + 14, _ => trivial
           ·intro jq hj
            match jq, hj with
            | 0, hj => exact absurd hj (by decide)
            | 1, hj => exact absurd hj (by decide)
            | 2, hj => exact absurd hj (by decide)
            | 3, hj => exact absurd hj (by decide)
            | 4, hj => exact absurd hj (by decide)
            | 5, hj => exact absurd hj (by decide)
            | 6, hj => exact absurd hj (by decide)
            | 7, hj => exact absurd hj (by decide)
            | 8, hj => exact absurd hj (by decide)
            | 9, hj => exact absurd hj (by decide)
            | 10, hj => exact absurd hj (by decide)
            | 11, hj => exact absurd hj (by decide)
            | 12, hj => exact absurd hj (by decide)
            | 13, hj => exact absurd hj (by decide)
            | _ + 14, _ => trivial
           ·refine ⟨?_, ?_, ?_, ?_, ?_, ?_, ?_, ?_, ?_, ?_, ?_, ?_, ?_, ?_, trivial⟩
            ·intro xq w21 hb21 hx K hK0
             have hK := fun v w' hb => hK0 v w' (.inl hb)
             clear hx hKc hK0
             obtain ⟨kg0, kg1, kg2⟩ := (Hga.out.up hb21).c3
             simp only [frameOf, fill, setSlot, sg, Nat.reduceBEq, if_true, if_false, Nat.reduceAdd, Nat.reduceEqDiff, HSL.out] at hK ⊢
             go_wp2_with (fail)
             exact hK _ _ (Below.refl _ _) rfl
            ·intro xq w21 hb21 hx K hK0
             have hK := fun v w' hb => hK0 v w' (.inl hb)
             clear hx hKc hK0
             obtain ⟨kcc0, kcc1, kcc2⟩ := (Hcca.out.up hb21).c3
             simp only [frameOf, fill, setSlot, sg, Nat.reduceBEq, if_true, if_false, Nat.reduceAdd, Nat.reduceEqDiff, HSL.out] at hK ⊢
             go_wp2_with (fail)
             exact hK _ _ (Below.refl _ _) rfl
            ·intro xq w21 hb21 hx K hK0
             have hK := fun v w' hb => hK0 v w' (.inl hb)
             clear hx hKc hK0
             simp only [frameOf, fill, setSlot, sg, Nat.reduceBEq, if_true, if_false, Nat.reduceAdd, Nat.reduceEqDiff, HSL.out] at hK ⊢
             go_wp2_with (fail)
             exact hK _ _ (Below.refl _ _) rfl
            ·intro xq w21 hb21 hx K hK0
             have hK := fun v w' hb => hK0 v w' (.inl hb)
             have e142 : xq 142 = .slice a2 len2 cap2 := hx 2 (by rfl) (by rfl)
             clear hx hKc hK0
             simp only [frameOf, fill, setSlot, sg, Nat.reduceBEq, if_true, if_false, Nat.reduceAdd, Nat.reduceEqDiff, HSL.out] at hK ⊢
             simp only [e142] at hK ⊢
             clear e142
             go_wp2_with (go_at_call 63; refine (Fill_any a2 len2 cap2 _ hn2).mono ?_; rintro e w2_ ⟨mm, rfl, hS_, hb_⟩)
             exact hK _ _ hb_ ⟨_, _, rfl, hb21.size, hS_⟩
            ·intro xq w21 hb21 hx K hK0
             have hK := fun v w' hb => hK0 v w' (.inl hb)
             clear hx hKc hK0
             simp only [frameOf, fill, setSlot, sg, Nat.reduceBEq, if_true, if_false, Nat.reduceAdd, Nat.reduceEqDiff, HSL.out] at hK ⊢
             go_wp2_with (fail)
             exact hK _ _ (Below.refl _ _) rfl
            ·intro xq w21 hb21 hx K hK0
             have hK := fun v w' hb => hK0 v w' (.inl hb)
             have e144 : xq 144 = .pointer (some ⟨w2.heap.size + 1, 2, none⟩) := hx 4 (by rfl) (by rfl)
             clear hx hKc hK0
             obtain ⟨kcc0, kcc1, kcc2⟩ := (Hcca.out.up hb21).c3
             simp only [frameOf, fill, setSlot, sg, Nat.reduceBEq, if_true, if_false, Nat.reduceAdd, Nat.reduceEqDiff, HSL.out] at hK ⊢
             simp only [e144] at hK ⊢
             clear e144
             go_wp2_with (fail)
             exact hK _ _ (Below.refl _ _) rfl
            ·intro xq w21 hb21 hx K hK0
             have hK := fun v w' hb => hK0 v w' (.inl hb)
             have e145 : xq 145 = .slice H' la.length q' := hx 5 (by rfl) (by rfl)
             clear hx hKc hK0
             simp only [frameOf, fill, setSlot, sg, Nat.reduceBEq, if_true, if_false, Nat.reduceAdd, Nat.reduceEqDiff, HSL.out] at hK ⊢
             simp only [e145] at hK ⊢
             clear e145
             go_wp2_with (fail)
             exact hK _ _ (Below.refl _ _) rfl
            ·intro xq w21 hb21 hx K hK0
             have hK := fun v w' hb => hK0 v w' (.inr hb)
             obtain ⟨b143, mm143, e143, f143_0, f143_1⟩ := hx 3 (by rfl) (by rfl)
             have e146 : xq 146 = .int .i64 (la.length : Int) := hx 6 (by rfl) (by rfl)
             clear hx hKc hK0
             simp only [frameOf, fill, setSlot, sg, Nat.reduceBEq, if_true, if_false, Nat.reduceAdd, Nat.reduceEqDiff, HSL.out] at hK ⊢
             simp only [e143, e146] at hK ⊢
             clear e143 e146
             go_wp2_with (go_at_call 75; refine (Shuffle_any b143 a2 len2 cap2 0 la.length mm143 _ f143_1 (fun w' hb => HYO.out.up (HBa.out.trans ((hb21.mono hsa).trans (hb.mono (Nat.le_trans hsa f143_0))))) hn2 (by decide) hla').mono ?_; rintro e w2_ ⟨v, xs, rfl, hsh, how, hb_⟩; obtain ⟨A, c, rfl, hi⟩ := ints_of_row how)
             refine hK _ _ ⟨(hb21.trans (hb_.mono f143_0)), ?_⟩ ⟨_, _, _, rfl, hi, hsh⟩
             intro jq xq hd hne hv
             match jq, hd, hne, hv with
             | 0, _, _, hv => exact hv
             | 1, _, _, hv => exact hv
             | 2, _, _, hv => exact hv
             | 3, hd, _, _ => exact absurd hd (by decide)
             | 4, _, _, hv => exact hv
             | 5, _, _, hv => exact hv
             | 6, _, _, hv => exact hv
             | 7, _, hne, _ => exact absurd rfl hne
             | 8, _, _, hv => exact hv
             | 9, _, _, hv => exact hv
             | 10, _, _, hv => exact hv
             | 11, _, _, hv => exact hv
             | 12, _, _, hv => exact hv
             | 13, _, _, hv => exact hv
             | _ + 14, _, _, _ => trivial
            ·intro xq w21 hb21 hx K hK0
             have hK := fun v w' hb => hK0 v w' (.inl hb)
             have e140 : xq 140 = .agg #[.int .i64 err, .int .i64 miss, .slice G gs.length d] := hx 0 (by rfl) (by rfl)
             have e141 : xq 141 = .agg #[.int .i64 full, .int .i64 emp, .slice H' la.length q'] := hx 1 (by rfl) (by rfl)
             obtain ⟨A147, c147, xs147, e147, f147_0, f147_1⟩ := hx 7 (by rfl) (by rfl)
             clear hx hKc hK0
             simp only [frameOf, fill, setSlot, sg, Nat.reduceBEq, if_true, if_false, Nat.reduceAdd, Nat.reduceEqDiff, HSL.out] at hK ⊢
             simp only [e140, e141, e147] at hK ⊢
             clear e140 e141 e147
             go_wp2_with (go_at_call 51; refine (Agree_in err miss full emp G H' d q' gs la A147 c147 xs147 _ (HGa.out.up hb21) hgl' (HHa.out.up hb21) hla' HE.out f147_0 (by rw [f147_1.len]; omega) (shuf_in f147_1) (shuf_twice f147_1)).mono ?_; rw [shuf_agree HPOS.out f147_1, HEM.out]; rintro e w2_ ⟨rfl, hb_⟩)
             exact hK _ _ hb_ rfl
            ·intro xq w21 hb21 hx K hK0
             have hK := fun v w' hb => hK0 v w' (.inl hb)
             have e148 : xq 148 = .tuple #[.bool false, .int .i64 0] := hx 8 (by rfl) (by rfl)
             clear hx hKc hK0
             simp only [frameOf, fill, setSlot, sg, Nat.reduceBEq, if_true, if_false, Nat.reduceAdd, Nat.reduceEqDiff, HSL.out] at hK ⊢
             simp only [e148] at hK ⊢
             clear e148
             go_wp2_with (fail)
             exact hK _ _ (Below.refl _ _) rfl
            ·intro xq w21 hb21 hx K hK0
             have hK := fun v w' hb => hK0 v w' (.inl hb)
             have e139 : xq 139 = .tuple #[.bool false, .int .i64 0] := hx 9 (by rfl) (by rfl)
             clear hx hKc hK0
             simp only [frameOf, fill, setSlot, sg, Nat.reduceBEq, if_true, if_false, Nat.reduceAdd, Nat.reduceEqDiff, HSL.out] at hK ⊢
             simp only [e139] at hK ⊢
             clear e139
             go_wp2_with (fail)
             exact hK _ _ (Below.refl _ _) rfl
            ·intro xq w21 hb21 hx K hK0
             have hK := fun v w' hb => hK0 v w' (.inl hb)
             have e139 : xq 139 = .tuple #[.bool false, .int .i64 0] := hx 9 (by rfl) (by rfl)
             clear hx hKc hK0
             simp only [frameOf, fill, setSlot, sg, Nat.reduceBEq, if_true, if_false, Nat.reduceAdd, Nat.reduceEqDiff, HSL.out] at hK ⊢
             simp only [e139] at hK ⊢
             clear e139
             go_wp2_with (fail)
             exact hK _ _ (Below.refl _ _) rfl
            ·intro xq w21 hb21 hx K hK0
             have hK := fun v w' hb => hK0 v w' (.inl hb)
             have e149 : xq 149 = .bool false := hx 10 (by rfl) (by rfl)
             clear hx hKc hK0
             simp only [frameOf, fill, setSlot, sg, Nat.reduceBEq, if_true, if_false, Nat.reduceAdd, Nat.reduceEqDiff, HSL.out] at hK ⊢
             simp only [e149] at hK ⊢
             clear e149
             go_wp2_with (fail)
             exact hK _ _ (Below.refl _ _) rfl
            ·intro xq w21 hb21 hx K hK0
             have hK := fun v w' hb => hK0 v w' (.inl hb)
             have e150 : xq 150 = .int .i64 0 := hx 11 (by rfl) (by rfl)
             clear hx hKc hK0
             simp only [frameOf, fill, setSlot, sg, Nat.reduceBEq, if_true, if_false, Nat.reduceAdd, Nat.reduceEqDiff, HSL.out] at hK ⊢
             simp only [e150] at hK ⊢
             clear e150
             go_wp2_with (fail)
             exact hK _ _ (Below.refl _ _) rfl
           ·intro xq w21 hb21 hx
            have e140 : xq 140 = .agg #[.int .i64 err, .int .i64 miss, .slice G gs.length d] := hx 0 (by decide)
            have e141 : xq 141 = .agg #[.int .i64 full, .int .i64 emp, .slice H' la.length q'] := hx 1 (by decide)
            have e142 : xq 142 = .slice a2 len2 cap2 := hx 2 (by decide)
            have e144 : xq 144 = .pointer (some ⟨w2.heap.size + 1, 2, none⟩) := hx 4 (by decide)
            have e145 : xq 145 = .slice H' la.length q' := hx 5 (by decide)
            have e146 : xq 146 = .int .i64 (la.length : Int) := hx 6 (by decide)
            obtain ⟨A147, c147, xs147, e147, f147_0, f147_1⟩ := hx 7 (by decide)
            have e148 : xq 148 = .tuple #[.bool false, .int .i64 0] := hx 8 (by decide)
            have e139 : xq 139 = .tuple #[.bool false, .int .i64 0] := hx 9 (by decide)
            have e149 : xq 149 = .bool false := hx 10 (by decide)
            have e150 : xq 150 = .int .i64 0 := hx 11 (by decide)
            have e25 : xq 25 = .bool false := hx 12 (by decide)
            have e17 : xq 17 = .int .i64 0 := hx 13 (by decide)
            clear hx
            simp only [frameOf, fill, setSlot, sg, Nat.reduceBEq, if_true, if_false, Nat.reduceAdd, Nat.reduceEqDiff, HSL.out]
            simp only [e140, e141, e142, e144, e145, e146, e147, e148, e139, e149, e150, e25, e17]
            clear e140 e141 e142 e144 e145 e146 e147 e148 e139 e149 e150 e25 e17
            refine hKc _ _ ?_
            have HS21 := Lib.hid hb21
            have HB21 : Hid (Below w.heap.size w w21) := Lib.hid (HBa.out.trans (hb21.mono hsa))
            have hs21 := HB21.out.size
            have hst21 := hb21.size
            clear hb21
            have Hg21 := Lib.hid (Hga.out.up HS21.out)
            have Hcc21 := Lib.hid (Hcca.out.up HS21.out)
            have HG21 := Lib.hid (HGa.out.up HS21.out)
            have HH21 := Lib.hid (HHa.out.up HS21.out)
            have HL21 := Lib.hid (HLa.out.up HS21.out)
            have HI21 := Lib.hid (HIa.out.up HS21.out)
            obtain ⟨kg0, kg1, kg2⟩ := Hg21.out.c3
            have lt_g : w2.heap.size < w21.heap.size := Hg21.out.lt
            obtain ⟨kcc0, kcc1, kcc2⟩ := Hcc21.out.c3
            have lt_cc : w2.heap.size + 1 < w21.heap.size := Hcc21.out.lt
            have hcf : (boundsOf miss (fun i => l.contains (i : Int)) la).empty = true := HCC.out
            have HCF := Lib.hid hcf
            clear hcf
            go_wp2_with fail
            refine (Agree_in err miss full emp G H' d q' gs la A8 c8 l _ (HG21.out.up zg) hgl' (HH21.out.up zg) hla' HE.out (HI21.out.up zg) hll HCR.out.within (rising_twice HCR.out)).mono ?_
            rw [HCF.out]
            rintro e w22 ⟨rfl, hb22⟩
            have Hg22 := Lib.hid (Holds.up (by have h := Hg21.out; exact zp4 : Holds _ (w2.heap.size) 24 #[.int .i64 err, .int .i64 miss, .slice G gs.length d]) hb22)
            have Hcc22 := Lib.hid (Holds.up (by have h := Hcc21.out; exact zp4 : Holds _ (w2.heap.size + 1) 27 #[.int .i64 full, .int .i64 emp, .slice H' la.length q']) hb22)
            have HS22 : Hid (Below w21.heap.size w21 w22) := Lib.hid (Below.trans zg (hb22.mono (by first | exact Nat.le_refl _ | omega | (simp; done) | (simp; omega))))
            have HB22 : Hid (Below w.heap.size w w22) := Lib.hid (HB21.out.trans (HS22.out.mono hs21))
            have hs22 := HB22.out.size
            have hst22 := HS22.out.size
            have HG22 := Lib.hid (HG21.out.up HS22.out)
            have HH22 := Lib.hid (HH21.out.up HS22.out)
            have HL22 := Lib.hid (HL21.out.up HS22.out)
            have HI22 := Lib.hid (HI21.out.up HS22.out)
            clear hb22
            clear kg0 kg1 kg2 lt_g kcc0 kcc1 kcc2 lt_cc
            go_wp2_with fail
            go_loopw [184] (fun v184 wz => ∃ i : Nat, v184 = .int .i64 (i : Int) ∧ i ≤ l.length ∧ Below w22.heap.size w22 wz) (fun v184 _ => l.length - (intOf v184).toNat)
            case atStart => exact ⟨0, rfl, Nat.zero_le _, zg⟩
            case round =>
             rename World => wc
             obtain ⟨i, rfl, hil, hl⟩ := hrel
             have HSc := Lib.hid hl
             have hszc := hl.size
             clear hl
             have Hgc := Lib.hid (Hg22.out.up HSc.out)
             have Hccc := Lib.hid (Hcc22.out.up HSc.out)
             have HGc := Lib.hid (HG22.out.up HSc.out)
             have HHc := Lib.hid (HH22.out.up HSc.out)
             have HLc := Lib.hid (HL22.out.up HSc.out)
             have HIc := Lib.hid (HI22.out.up HSc.out)
             have HBc : Hid (Below w.heap.size w wc) := Lib.hid (HB22.out.trans (HSc.out.mono hs22))
             have hsc := HBc.out.size
             by_cases hit : i < l.length
             ·as_aux_lemma =>
               have hit' : (i : Int) < l.length := by omega
               obtain ⟨hdr, hde⟩ := HCD.out i hit
               obtain ⟨xd, hxd⟩ : ∃ z, z = l.take i ++ l.drop (i + 1) := ⟨_, rfl⟩
               have hdl : xd.length ≤ 1000 := by rw [hxd, List.length_append, List.length_take, List.length_drop]; omega
               rw [← hxd] at hdr hde
               have HXD := Lib.hid hxd
               clear hxd
               have HDR := Lib.hid hdr
               have HDE := Lib.hid hde
               have HDL := Lib.hid hdl
               clear hdr hde hdl
               go_wp2_with fail
               rename_i Kc hKc
               have HSL := Lib.hid (show slotsOf [some 188, some 189, some 190, some 191, some 192, some 193, some 194, some 195, some 196, some 187, some 197, some 198, some 29, some 30] = [188, 189, 190, 191, 192, 193, 194, 195, 196, 187, 197, 198, 29, 30] from rfl)
               refine wp_region_partsG (by kernel_rfl) [some 188, some 189, some 190, some 191, some 192, some 193, some 194, some 195, some 196, some 187, some 197, some 198, some 29, some 30] (fun jq xq w' => match jq with
                | 0 => xq 188 = .agg #[.int .i64 err, .int .i64 miss, .slice G gs.length d]
                | 1 => xq 189 = .agg #[.int .i64 full, .int .i64 emp, .slice H' la.length q']
                | 2 => xq 190 = .slice A8 l.length c8
                | 3 => ∃ v, xq 191 = v ∧ OwnInts w' wc.heap.size v l
                | 4 => xq 192 = .int .i64 (i : Int)
                | 5 => xq 193 = .int .i64 (i : Int)
                | 6 => xq 194 = .int .i64 ((i + 1 : Nat) : Int)
                | 7 => ∃ A c, xq 195 = .slice A xd.length c ∧ IntsAt w' A xd
                | 8 => xq 196 = .tuple #[.bool true, .int .i64 0]
                | 9 => xq 187 = .tuple #[.bool true, .int .i64 0]
                | 10 => xq 197 = .bool true
                | 11 => xq 198 = .int .i64 0
                | 12 => xq 29 = .bool true
                | 13 => xq 30 = .int .i64 0
                | _ => True) [[188], [189], [190], [191], [192], [193], [194], [195], [196], [187], [197], [198], [29], [30]] [(7, 3)] (fun w' => Below wc.heap.size wc w') (by kernel_rfl)  ?_ ?_ (fun w' w'' hb h => h.trans (hb.mono h.size)) (Below.refl _ _) ?_ ?_ ?_
               ·intro jq xq xq' wqq h hv
                match jq, h, hv with
                | 0, h, hv => show xq' 188 = .agg #[.int .i64 err, .int .i64 miss, .slice G gs.length d]; rw [← h 188 (by decide)]; exact hv
                | 1, h, hv => show xq' 189 = .agg #[.int .i64 full, .int .i64 emp, .slice H' la.length q']; rw [← h 189 (by decide)]; exact hv
                | 2, h, hv => show xq' 190 = .slice A8 l.length c8; rw [← h 190 (by decide)]; exact hv
                | 3, h, hv => show ∃ v, xq' 191 = v ∧ OwnInts wqq wc.heap.size v l; rw [← h 191 (by decide)]; exact hv
                | 4, h, hv => show xq' 192 = .int .i64 (i : Int); rw [← h 192 (by decide)]; exact hv
                | 5, h, hv => show xq' 193 = .int .i64 (i : Int); rw [← h 193 (by decide)]; exact hv
                | 6, h, hv => show xq' 194 = .int .i64 ((i + 1 : Nat) : Int); rw [← h 194 (by decide)]; exact hv
                | 7, h, hv => show ∃ A c, xq' 195 = .slice A xd.length c ∧ IntsAt wqq A xd; rw [← h 195 (by decide)]; exact hv
                | 8, h, hv => show xq' 196 = .tuple #[.bool true, .int .i64 0]; rw [← h 196 (by decide)]; exact hv
                | 9, h, hv => show xq' 187 = .tuple #[.bool true, .int .i64 0]; rw [← h 187 (by decide)]; exact hv
                | 10, h, hv => show xq' 197 = .bool true; rw [← h 197 (by decide)]; exact hv
                | 11, h, hv => show xq' 198 = .int .i64 0; rw [← h 198 (by decide)]; exact hv
                | 12, h, hv => show xq' 29 = .bool true; rw [← h 29 (by decide)]; exact hv
                | 13, h, hv => show xq' 30 = .int .i64 0; rw [← h 30 (by decide)]; exact hv
                | _ + 14, _, _ => trivial
               ·intro jq xq wqq w' hb' hv
                match jq, hv with
                | 0, hv => exact hv
                | 1, hv => exact hv
                | 2, hv => exact hv
                | 3, ⟨b0, h0, h1⟩ => exact ⟨b0, h0, h1.up hb'⟩
                | 4, hv => exact hv
                | 5, hv => exact hv
                | 6, hv => exact hv
                | 7, ⟨b0, b1, h0, h1⟩ => exact ⟨b0, b1, h0, h1.up hb'⟩
                | 8, hv => exact hv
                | 9, hv => exact hv
                | 10, hv => exact hv
                | 11, hv => exact hv
                | 12, hv => exact hv
                | 13, hv => exact hv
                | _ + 14, _ => trivial
               ·intro jq hj
                match jq, hj with
                | 0, hj => exact absurd hj (by decide)
                | 1, hj => exact absurd hj (by decide)
                | 2, hj => exact absurd hj (by decide)
                | 3, hj => exact absurd hj (by decide)
                | 4, hj => exact absurd hj (by decide)
                | 5, hj => exact absurd hj (by decide)
                | 6, hj => exact absurd hj (by decide)
                | 7, hj => exact absurd hj (by decide)
                | 8, hj => exact absurd hj (by decide)
                | 9, hj => exact absurd hj (by decide)
                | 10, hj => exact absurd hj (by decide)
                | 11, hj => exact absurd hj (by decide)
                | 12, hj => exact absurd hj (by decide)
                | 13, hj => exact absurd hj (by decide)
                | _ + 14, _ => trivial
               ·refine ⟨?_, ?_, ?_, ?_, ?_, ?_, ?_, ?_, ?_, ?_, ?_, ?_, ?_, ?_, trivial⟩
                ·intro xq w23 hb23 hx K hK0
                 have hK := fun v w' hb => hK0 v w' (.inl hb)
                 clear hx hKc hK0
                 obtain ⟨kg0, kg1, kg2⟩ := (Hgc.out.up hb23).c3
                 simp only [frameOf, fill, setSlot, sg, Nat.reduceBEq, if_true, if_false, Nat.reduceAdd, Nat.reduceEqDiff, HSL.out] at hK ⊢
                 go_wp2_with (fail)
                 exact hK _ _ (Below.refl _ _) rfl
                ·intro xq w23 hb23 hx K hK0
                 have hK := fun v w' hb => hK0 v w' (.inl hb)
                 clear hx hKc hK0
                 obtain ⟨kcc0, kcc1, kcc2⟩ := (Hccc.out.up hb23).c3
                 simp only [frameOf, fill, setSlot, sg, Nat.reduceBEq, if_true, if_false, Nat.reduceAdd, Nat.reduceEqDiff, HSL.out] at hK ⊢
                 go_wp2_with (fail)
                 exact hK _ _ (Below.refl _ _) rfl
                ·intro xq w23 hb23 hx K hK0
                 have hK := fun v w' hb => hK0 v w' (.inl hb)
                 clear hx hKc hK0
                 simp only [frameOf, fill, setSlot, sg, Nat.reduceBEq, if_true, if_false, Nat.reduceAdd, Nat.reduceEqDiff, HSL.out] at hK ⊢
                 go_wp2_with (fail)
                 exact hK _ _ (Below.refl _ _) rfl
                ·intro xq w23 hb23 hx K hK0
                 have hK := fun v w' hb => hK0 v w' (.inl hb)
                 have e190 : xq 190 = .slice A8 l.length c8 := hx 2 (by rfl) (by rfl)
                 clear hx hKc hK0
                 simp only [frameOf, fill, setSlot, sg, Nat.reduceBEq, if_true, if_false, Nat.reduceAdd, Nat.reduceEqDiff, HSL.out] at hK ⊢
                 simp only [e190] at hK ⊢
                 clear e190
                 go_wp2_with (go_at_call 77; refine (Clone_own _ (.slice A8 l.length c8) l _ (HLc.out.up hb23) (by omega)).mono ?_; rintro e w2_ ⟨v, rfl, ho_, hb_⟩)
                 exact hK _ _ hb_ ⟨_, rfl, ho_.mono hb23.size⟩
                ·intro xq w23 hb23 hx K hK0
                 have hK := fun v w' hb => hK0 v w' (.inl hb)
                 clear hx hKc hK0
                 simp only [frameOf, fill, setSlot, sg, Nat.reduceBEq, if_true, if_false, Nat.reduceAdd, Nat.reduceEqDiff, HSL.out] at hK ⊢
                 go_wp2_with (fail)
                 exact hK _ _ (Below.refl _ _) rfl
                ·intro xq w23 hb23 hx K hK0
                 have hK := fun v w' hb => hK0 v w' (.inl hb)
                 clear hx hKc hK0
                 simp only [frameOf, fill, setSlot, sg, Nat.reduceBEq, if_true, if_false, Nat.reduceAdd, Nat.reduceEqDiff, HSL.out] at hK ⊢
                 go_wp2_with (fail)
                 exact hK _ _ (Below.refl _ _) rfl
                ·intro xq w23 hb23 hx K hK0
                 have hK := fun v w' hb => hK0 v w' (.inl hb)
                 have e193 : xq 193 = .int .i64 (i : Int) := hx 5 (by rfl) (by rfl)
                 clear hx hKc hK0
                 have hi4 : i < 4 := by omega
                 simp only [frameOf, fill, setSlot, sg, Nat.reduceBEq, if_true, if_false, Nat.reduceAdd, Nat.reduceEqDiff, HSL.out] at hK ⊢
                 simp only [e193] at hK ⊢
                 clear e193
                 go_wp2_with (fail)
                 exact hK _ _ (Below.refl _ _) (congrArg (Value.int .i64) (by omega))
                ·intro xq w23 hb23 hx K hK0
                 have hK := fun v w' hb => hK0 v w' (.inr hb)
                 obtain ⟨v191, e191, f191_0⟩ := hx 3 (by rfl) (by rfl)
                 have e192 : xq 192 = .int .i64 (i : Int) := hx 4 (by rfl) (by rfl)
                 have e194 : xq 194 = .int .i64 ((i + 1 : Nat) : Int) := hx 6 (by rfl) (by rfl)
                 clear hx hKc hK0
                 simp only [frameOf, fill, setSlot, sg, Nat.reduceBEq, if_true, if_false, Nat.reduceAdd, Nat.reduceEqDiff, HSL.out] at hK ⊢
                 simp only [e191, e192, e194] at hK ⊢
                 clear e191 e192 e194
                 go_wp2_with (go_at_call 76; refine (Delete_own wc.heap.size v191 l i _ f191_0 hit).mono ?_; rw [← HXD.out]; rintro e w2_ ⟨A, c, rfl, hi, hb_⟩)
                 refine hK _ _ ⟨(hb23.trans hb_), ?_⟩ ⟨_, _, rfl, hi⟩
                 intro jq xq hd hne hv
                 match jq, hd, hne, hv with
                 | 0, _, _, hv => exact hv
                 | 1, _, _, hv => exact hv
                 | 2, _, _, hv => exact hv
                 | 3, hd, _, _ => exact absurd hd (by decide)
                 | 4, _, _, hv => exact hv
                 | 5, _, _, hv => exact hv
                 | 6, _, _, hv => exact hv
                 | 7, _, hne, _ => exact absurd rfl hne
                 | 8, _, _, hv => exact hv
                 | 9, _, _, hv => exact hv
                 | 10, _, _, hv => exact hv
                 | 11, _, _, hv => exact hv
                 | 12, _, _, hv => exact hv
                 | 13, _, _, hv => exact hv
                 | _ + 14, _, _, _ => trivial
                ·intro xq w23 hb23 hx K hK0
                 have hK := fun v w' hb => hK0 v w' (.inl hb)
                 have e188 : xq 188 = .agg #[.int .i64 err, .int .i64 miss, .slice G gs.length d] := hx 0 (by rfl) (by rfl)
                 have e189 : xq 189 = .agg #[.int .i64 full, .int .i64 emp, .slice H' la.length q'] := hx 1 (by rfl) (by rfl)
                 obtain ⟨A195, c195, e195, f195_0⟩ := hx 7 (by rfl) (by rfl)
                 clear hx hKc hK0
                 simp only [frameOf, fill, setSlot, sg, Nat.reduceBEq, if_true, if_false, Nat.reduceAdd, Nat.reduceEqDiff, HSL.out] at hK ⊢
                 simp only [e188, e189, e195] at hK ⊢
                 clear e188 e189 e195
                 go_wp2_with (go_at_call 51; refine (Agree_in err miss full emp G H' d q' gs la A195 c195 xd _ (HGc.out.up hb23) hgl' (HHc.out.up hb23) hla' HE.out f195_0 HDL.out HDR.out.within (rising_twice HDR.out)).mono ?_; rw [HDE.out]; rintro e w2_ ⟨rfl, hb_⟩)
                 exact hK _ _ hb_ rfl
                ·intro xq w23 hb23 hx K hK0
                 have hK := fun v w' hb => hK0 v w' (.inl hb)
                 have e196 : xq 196 = .tuple #[.bool true, .int .i64 0] := hx 8 (by rfl) (by rfl)
                 clear hx hKc hK0
                 simp only [frameOf, fill, setSlot, sg, Nat.reduceBEq, if_true, if_false, Nat.reduceAdd, Nat.reduceEqDiff, HSL.out] at hK ⊢
                 simp only [e196] at hK ⊢
                 clear e196
                 go_wp2_with (fail)
                 exact hK _ _ (Below.refl _ _) rfl
                ·intro xq w23 hb23 hx K hK0
                 have hK := fun v w' hb => hK0 v w' (.inl hb)
                 have e187 : xq 187 = .tuple #[.bool true, .int .i64 0] := hx 9 (by rfl) (by rfl)
                 clear hx hKc hK0
                 simp only [frameOf, fill, setSlot, sg, Nat.reduceBEq, if_true, if_false, Nat.reduceAdd, Nat.reduceEqDiff, HSL.out] at hK ⊢
                 simp only [e187] at hK ⊢
                 clear e187
                 go_wp2_with (fail)
                 exact hK _ _ (Below.refl _ _) rfl
                ·intro xq w23 hb23 hx K hK0
                 have hK := fun v w' hb => hK0 v w' (.inl hb)
                 have e187 : xq 187 = .tuple #[.bool true, .int .i64 0] := hx 9 (by rfl) (by rfl)
                 clear hx hKc hK0
                 simp only [frameOf, fill, setSlot, sg, Nat.reduceBEq, if_true, if_false, Nat.reduceAdd, Nat.reduceEqDiff, HSL.out] at hK ⊢
                 simp only [e187] at hK ⊢
                 clear e187
                 go_wp2_with (fail)
                 exact hK _ _ (Below.refl _ _) rfl
                ·intro xq w23 hb23 hx K hK0
                 have hK := fun v w' hb => hK0 v w' (.inl hb)
                 have e197 : xq 197 = .bool true := hx 10 (by rfl) (by rfl)
                 clear hx hKc hK0
                 simp only [frameOf, fill, setSlot, sg, Nat.reduceBEq, if_true, if_false, Nat.reduceAdd, Nat.reduceEqDiff, HSL.out] at hK ⊢
                 simp only [e197] at hK ⊢
                 clear e197
                 go_wp2_with (fail)
                 exact hK _ _ (Below.refl _ _) rfl
                ·intro xq w23 hb23 hx K hK0
                 have hK := fun v w' hb => hK0 v w' (.inl hb)
                 have e198 : xq 198 = .int .i64 0 := hx 11 (by rfl) (by rfl)
                 clear hx hKc hK0
                 simp only [frameOf, fill, setSlot, sg, Nat.reduceBEq, if_true, if_false, Nat.reduceAdd, Nat.reduceEqDiff, HSL.out] at hK ⊢
                 simp only [e198] at hK ⊢
                 clear e198
                 go_wp2_with (fail)
                 exact hK _ _ (Below.refl _ _) rfl
               ·intro xq w23 hb23 hx
                have e188 : xq 188 = .agg #[.int .i64 err, .int .i64 miss, .slice G gs.length d] := hx 0 (by decide)
                have e189 : xq 189 = .agg #[.int .i64 full, .int .i64 emp, .slice H' la.length q'] := hx 1 (by decide)
                have e190 : xq 190 = .slice A8 l.length c8 := hx 2 (by decide)
                have e192 : xq 192 = .int .i64 (i : Int) := hx 4 (by decide)
                have e193 : xq 193 = .int .i64 (i : Int) := hx 5 (by decide)
                have e194 : xq 194 = .int .i64 ((i + 1 : Nat) : Int) := hx 6 (by decide)
                obtain ⟨A195, c195, e195, f195_0⟩ := hx 7 (by decide)
                have e196 : xq 196 = .tuple #[.bool true, .int .i64 0] := hx 8 (by decide)
                have e187 : xq 187 = .tuple #[.bool true, .int .i64 0] := hx 9 (by decide)
                have e197 : xq 197 = .bool true := hx 10 (by decide)
                have e198 : xq 198 = .int .i64 0 := hx 11 (by decide)
                have e29 : xq 29 = .bool true := hx 12 (by decide)
                have e30 : xq 30 = .int .i64 0 := hx 13 (by decide)
                clear hx
                simp only [frameOf, fill, setSlot, sg, Nat.reduceBEq, if_true, if_false, Nat.reduceAdd, Nat.reduceEqDiff, HSL.out]
                simp only [e188, e189, e190, e192, e193, e194, e195, e196, e187, e197, e198, e29, e30]
                clear e188 e189 e190 e192 e193 e194 e195 e196 e187 e197 e198 e29 e30
                refine hKc _ _ ?_
                have HS23 := Lib.hid hb23
                clear hb23
                go_wp2_with fail
                go_roundw
                case rel => exact ⟨i + 1, by go_num, by omega, HSc.out.trans (HS23.out.mono hszc)⟩
                case measure => first | (simp [intOf]; done) | (simp [intOf]; omega)
             ·go_wp2_with fail
              refine (awake_any _).mono ?_
              rintro e w40 ⟨rfl, hb40⟩
              go_wp2_with fail
              go_ret
              exact ⟨rfl, HBc.out.trans (hb40.mono hsc)⟩
end Go.Proofs.Ytdpgfaikmahmpaa
