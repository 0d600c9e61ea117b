
import Derived.Test.YtdpgfaikmahmpaaWAA
import Derived.Test.YtdpgfaikmahmpaaWAC
import Derived.Test.YtdpgfaikmahmpaaWBF
import Derived.Test.YtdpgfaikmahmpaaWBS
import Derived.Test.YtdpgfaikmahmpaaWBT
import Derived.Test.YtdpgfaikmahmpaaWBU
set_option linter.unusedSimpArgs false
set_option linter.unusedVariables false
namespace Go.Proofs.Ytdpgfaikmahmpaa
open Go.RowKit
set_option maxRecDepth 100000 in
set_option maxHeartbeats 16000000 in
theorem GateWider_any (a0 : Option Addr) (len0 cap0 : Nat) (z0 : List Int) (a1 : Option Addr) (len1 cap1 : Nat) (z1 : List Int) (a2 : Int) (w : World) (w0 : RowIn w a0 len0 cap0 z0) (w1_ : RowIn w a1 len1 cap1 z1) (w2_ : (Lit.int .u8 a2).wf = true) :
  Calls Try.prog 12 #[.slice a0 len0 cap0, .slice a1 len1 cap1, .int .u8 a2] w fun e w' => e = .returned (.bool true) ∧ Below w.heap.size w w' := by
 obtain ⟨hB0, hn⟩ := bytes_of w0
 obtain ⟨hB1, hn1⟩ := bytes_of w1_
 obtain ⟨a20, a21⟩ := u8_in w2_
 have HY0 := Lib.hid hB0
 have HY1 := Lib.hid hB1
 clear hB0 hB1 w0 w1_ w2_
 obtain ⟨ti, hti, hti0, hti1, hti2⟩ := info_parts info_hand
 go_enter Try.func12, Try.ntmps12
 go_wp2_with fail
 refine (Fill_any a0 len0 cap0 _ hn).mono ?_
 rintro e w1 ⟨m, rfl, hS1, hb1⟩
 have HS1 := Lib.hid hS1
 have HB1 := Lib.hid hb1
 clear hS1 hb1
 go_wp2_with fail
 refine (Made_any w.heap.size a0 len0 cap0 0 m 2 4 (by decide) (by decide) (by decide) (by decide) w1 HS1.out (HY0.out.up HB1.out) hn (by decide)).mono ?_
 rintro e w2 ⟨err, miss, full, emp, m0, m1, m2, m3, gs, hs, G, H, d, q, tk1, mm, rfl, hok, hgl, hhl, hog, hoh, -, -, hg2⟩
 have hgl2 : gs.length ≤ 2 := by omega
 have hhl4 : hs.length ≤ 4 := by omega
 have HB2 := Lib.hid (HB1.out.grown hg2 (by have := HS1.out.lt; omega) (fun k hk => by cases hk; exact Nat.le_refl _))
 have hs1 := HB1.out.size
 have hz2 := HB2.out.size
 have HOG := Lib.hid (OwnGrades.base hog hs1)
 have HOH := Lib.hid (OwnHands.base hoh hs1)
 have HOK := Lib.hid hok
 clear hok hog hoh hg2 HS1 HB1
 obtain ⟨e0, e1, i0m, i1m, y0_, y1_, f0, f1, _, _, _⟩ := HOK.out
 have i2m : miss ≤ 20 := by omega
 go_wp2_with fail
 refine (Fill_any a1 len1 cap1 _ hn1).mono ?_
 simp only [World.size_alloc]
 rintro e w3 ⟨sm, rfl, hS3, hb3⟩
 have Hs3 : Hid (Holds w3 (w2.heap.size + 1 + 1 + 1) 172 #[.slice a1 len1 cap1, .int .i64 ((0 : Nat) : Int), .int .u32 sm]) := Lib.hid hS3
 have Hg3 := Lib.hid (Holds.low (zp4 : Holds _ (w2.heap.size) 24 #[.int .i64 err, .int .i64 miss, .slice G gs.length d]) hb3 (by omega))
 have Hc3 := Lib.hid (Holds.low (zp4 : Holds _ (w2.heap.size + 1) 27 #[.int .i64 full, .int .i64 emp, .slice H hs.length q]) hb3 (by omega))
 have Hm3 := Lib.hid (Holds.low (zp4 : Holds _ (w2.heap.size + 1 + 1) 28 #[.int .i64 m0, .int .i64 m1, .int .i64 m2, .int .i64 m3]) hb3 (by omega))
 have HB3 : Hid (Below w2.heap.size w2 w3) := Lib.hid (Below.trans zg (hb3.mono (by omega)))
 have hsz3 := HB3.out.size
 have ls3 := hS3.lt
 clear hb3 hS3
 have HY3 := Lib.hid (HY1.out.up (HB2.out.trans (HB3.out.mono hz2)))
 have HOG3 := Lib.hid (HOG.out.up HB3.out)
 have HOH3 := Lib.hid (HOH.out.up HB3.out)
 go_wp2_with fail
 refine (Mixed_any (w2.heap.size + 1 + 1 + 1) a1 len1 cap1 0 sm _ Hs3.out HY3.out hn1 (by decide)).mono ?_
 rintro e w4 ⟨n0, n1, n2, n3, tk4, sm4, rfl, hmix, htk4, hs4_, hg4⟩
 have HNX := Lib.hid hmix
 have HS4 := Lib.hid hs4_
 have Hg4 := Lib.hid (Holds.grown Hg3.out hg4 (by omega))
 have Hc4 := Lib.hid (Holds.grown Hc3.out hg4 (by omega))
 have Hm4 := Lib.hid (Holds.grown Hm3.out hg4 (by omega))
 have hs34 := hg4.size
 have HB4 : Hid (Below w.heap.size w w4) := Lib.hid ((HB2.out.trans (HB3.out.mono hz2)).grown hg4 (by omega) (fun k hk => by cases hk; omega))
 have HY4 := Lib.hid (HY3.out.grown Hs3.out hg4)
 have HOH4 := Lib.hid (row_other_block HOH3.out Hs3.out (by decide) hg4)
 have HOG4 := Lib.hid (grades_other_block HOG3.out Hs3.out (by decide) hg4)
 clear hmix hs4_ hg4
 go_wp2_with fail
 refine (Below_any (w2.heap.size + 1 + 1 + 1) a1 len1 cap1 tk4 sm4 3 _ (by have h := HS4.out; exact zp4) (HY4.out.up zg) hn1 (by omega) (by decide) (by decide)).mono ?_
 rintro e w5 ⟨rr, sm5, rfl, rr0, rr1, _, hs5_, hg5⟩
 have HS5 := Lib.hid hs5_
 have ls4 := HS4.out.lt
 have Hg5 := Lib.hid (Holds.grown (by have h := Hg4.out; exact zp4 : Holds _ (w2.heap.size) 24 #[.int .i64 err, .int .i64 miss, .slice G gs.length d]) hg5 (by omega))
 have Hc5 := Lib.hid (Holds.grown (by have h := Hc4.out; exact zp4 : Holds _ (w2.heap.size + 1) 27 #[.int .i64 full, .int .i64 emp, .slice H hs.length q]) hg5 (by omega))
 have Hm5 := Lib.hid (Holds.grown (by have h := Hm4.out; exact zp4 : Holds _ (w2.heap.size + 1 + 1) 28 #[.int .i64 m0, .int .i64 m1, .int .i64 m2, .int .i64 m3]) hg5 (by omega))
 have Hn5 := Lib.hid (Holds.grown (zp4 : Holds _ (w4.heap.size) 28 #[.int .i64 n0, .int .i64 n1, .int .i64 n2, .int .i64 n3]) hg5 (by omega))
 have hs45 := hg5.size
 simp only [World.size_alloc] at hs45
 have HB5 : Hid (Below w.heap.size w w5) := Lib.hid (Below.grown (Below.trans HB4.out zg) hg5 (by simp; omega) (fun k hk => by cases hk; omega))
 have hsz5 := HB5.out.size
 have hb4a : Below w4.heap.size w4 (w4.alloc (.cells #[.int .i64 n0, .int .i64 n1, .int .i64 n2, .int .i64 n3] 28)) := by (repeat' (first | (with_reducible first | exact Below.refl _ _ | assumption | refine Below.alloc ?_ ?_ _ | refine Below.drew ?_ | refine Below.setCell ?_ ?_ _ | exact Nat.le_refl _) | omega | (simp only [World.size_alloc, World.size_setCell, World.size_drew]; omega) | (simp; omega) | (simp; done)))
 have HS4a := (Holds.alloc HS4.out (.cells #[.int .i64 n0, .int .i64 n1, .int .i64 n2, .int .i64 n3] 28))
 have HY5 := Lib.hid ((HY4.out.up hb4a).grown HS4a hg5)
 have HOH5 := Lib.hid (row_other_block (row5_up HOH4.out hb4a) HS4a (by decide) hg5)
 have HOG5 := Lib.hid (grades_other_block (OwnGrades.up HOG4.out hb4a) HS4a (by decide) hg5)
 clear hb4a HS4a
 clear hs5_ hg5
 go_wp2_with fail
 have HL0 : (0 : Int) ≤ rr := rr0
 go_loopw [46] (fun v46 wr => WdRel w.heap.size (w2.heap.size + 1 + 1 + 1) (w2.heap.size + 1) a1 len1 cap1 full emp miss n0 n1 n2 n3 hs rr w5 v46 wr) (fun v46 _ => (rr - intOf v46).toNat)
 case atStart => exact ⟨[], .slice H hs.length q, tk4 + 1, sm5, rfl, rr0, (fun _ h => absurd h (List.not_mem_nil)), by simp; omega, HS5.out, Hc5.out, (by rw [List.append_nil]; exact HOH5.out), But.refl _ _ _⟩
 case round =>
  obtain ⟨ex, sv, tk, mm_, rfl, hxr, hxt, htk, hSr, hCr, hOr, hBr⟩ := hrel
  have HSr := Lib.hid hSr
  have HCr := Lib.hid hCr
  have HQr := Lib.hid hBr
  have HXT := Lib.hid hxt
  have hszr := hBr.size
  have hxl2 : ex.length ≤ 2 := by omega
  obtain ⟨la, hla⟩ : ∃ z, z = hs ++ ex := ⟨_, rfl⟩
  have lal : la.length = hs.length + ex.length := by rw [hla, List.length_append]
  have la6 : la.length ≤ 6 := by omega
  have LAL := Lib.hid lal
  clear lal
  rw [← hla] at hOr
  have HOr := Lib.hid hOr
  have HLA := Lib.hid hla
  clear hSr hCr hBr hOr hla hxt
  by_cases hlt : (ex.length : Int) < rr
  ·as_aux_lemma =>
    have HRR := Lib.hid rr1
    go_wp2_with fail
    rename_i Kc hKc
    have HSL := Lib.hid (show slotsOf [some 48, some 49, some 50, some 51, some 52, some 53, some 54, some 55, some 56, none] = [48, 49, 50, 51, 52, 53, 54, 55, 56] from rfl)
    refine wp_region_partsG (by kernel_rfl) [some 48, some 49, some 50, some 51, some 52, some 53, some 54, some 55, some 56, none] (fun jq xq w' => match jq with
     | 0 => xq 48 = .pointer (some ⟨w2.heap.size + 1, 2, none⟩)
     | 1 => xq 49 = sv
     | 2 => xq 50 = .pointer (some ⟨w2.heap.size + 1 + 1 + 1, 0, none⟩)
     | 3 => xq 51 = .agg #[.int .i64 err, .int .i64 miss, .slice G gs.length d]
     | 4 => xq 52 = .agg #[.int .i64 n0, .int .i64 n1, .int .i64 n2, .int .i64 n3]
     | 5 => ∃ y tkx mmx, xq 53 = .agg #[.int .i64 y.spot, .int .i64 y.g0, .int .i64 y.g1, .int .i64 y.g2, .int .i64 y.g3] ∧ TakenOk miss n0 n1 n2 n3 y ∧ tkx ≤ tk + 8 ∧ Holds w' (w2.heap.size + 1 + 1 + 1) 172 #[.slice a1 len1 cap1, .int .i64 ((tkx : Nat) : Int), .int .u32 mmx]
     | 6 => ∃ b y, xq 54 = .slice (some ⟨b, 0, none⟩) 1 1 ∧ Holds w' b 30 y.cells.toArray ∧ TakenOk miss n0 n1 n2 n3 y
     | 7 => ∃ A2 d2 y, xq 55 = .slice A2 (la.length + 1) d2 ∧ OwnHands w' w.heap.size (.slice A2 (la.length + 1) d2) (la ++ [y]) ∧ TakenOk miss n0 n1 n2 n3 y
     | 8 => xq 56 = .pointer (some ⟨w2.heap.size + 1, 2, none⟩)
     | 9 => ∃ A2 d2 y, Holds w' (w2.heap.size + 1) 27 #[.int .i64 full, .int .i64 emp, .slice A2 (la.length + 1) d2] ∧ OwnHands w' w.heap.size (.slice A2 (la.length + 1) d2) (la ++ [y]) ∧ TakenOk miss n0 n1 n2 n3 y
     | 10 => Holds w' (w2.heap.size + 1 + 1 + 1) 172 #[.slice a1 len1 cap1, .int .i64 ((tk : Nat) : Int), .int .u32 mm_]
     | 11 => Holds w' (w2.heap.size + 1) 27 #[.int .i64 full, .int .i64 emp, sv]
     | 12 => OwnHands w' w.heap.size sv la
     | _ => True) [[48], [49], [50], [51], [52], [53], [54], [55], [56], [], [], [], []] [(5, 10), (7, 10), (9, 10), (7, 6), (9, 6), (7, 12), (9, 11)] (fun w' => But w.heap.size [w2.heap.size + 1 + 1 + 1, w2.heap.size + 1] w5 w') (by kernel_rfl)  ?_ ?_ (fun w' w'' hb h => h.up hsz5 hb) (HQr.out) ?_ ?_ ?_
    ·intro jq xq xq' wqq h hv
     match jq, h, hv with
     | 0, h, hv => show xq' 48 = .pointer (some ⟨w2.heap.size + 1, 2, none⟩); rw [← h 48 (by decide)]; exact hv
     | 1, h, hv => show xq' 49 = sv; rw [← h 49 (by decide)]; exact hv
     | 2, h, hv => show xq' 50 = .pointer (some ⟨w2.heap.size + 1 + 1 + 1, 0, none⟩); rw [← h 50 (by decide)]; exact hv
     | 3, h, hv => show xq' 51 = .agg #[.int .i64 err, .int .i64 miss, .slice G gs.length d]; rw [← h 51 (by decide)]; exact hv
     | 4, h, hv => show xq' 52 = .agg #[.int .i64 n0, .int .i64 n1, .int .i64 n2, .int .i64 n3]; rw [← h 52 (by decide)]; exact hv
     | 5, h, hv => show ∃ y tkx mmx, xq' 53 = .agg #[.int .i64 y.spot, .int .i64 y.g0, .int .i64 y.g1, .int .i64 y.g2, .int .i64 y.g3] ∧ TakenOk miss n0 n1 n2 n3 y ∧ tkx ≤ tk + 8 ∧ Holds wqq (w2.heap.size + 1 + 1 + 1) 172 #[.slice a1 len1 cap1, .int .i64 ((tkx : Nat) : Int), .int .u32 mmx]; rw [← h 53 (by decide)]; exact hv
     | 6, h, hv => show ∃ b y, xq' 54 = .slice (some ⟨b, 0, none⟩) 1 1 ∧ Holds wqq b 30 y.cells.toArray ∧ TakenOk miss n0 n1 n2 n3 y; rw [← h 54 (by decide)]; exact hv
     | 7, h, hv => show ∃ A2 d2 y, xq' 55 = .slice A2 (la.length + 1) d2 ∧ OwnHands wqq w.heap.size (.slice A2 (la.length + 1) d2) (la ++ [y]) ∧ TakenOk miss n0 n1 n2 n3 y; rw [← h 55 (by decide)]; exact hv
     | 8, h, hv => show xq' 56 = .pointer (some ⟨w2.heap.size + 1, 2, none⟩); rw [← h 56 (by decide)]; exact hv
     | 9, h, hv => exact hv
     | 10, h, hv => exact hv
     | 11, h, hv => exact hv
     | 12, h, hv => exact hv
     | _ + 13, _, _ => trivial
    ·intro jq xq wqq w' hb' hv
     match jq, hv with
     | 0, hv => exact hv
     | 1, hv => exact hv
     | 2, hv => exact hv
     | 3, hv => exact hv
     | 4, hv => exact hv
     | 5, ⟨b0, b1, b2, h0, h1, h2, h3⟩ => exact ⟨b0, b1, b2, h0, h1, h2, h3.up hb'⟩
     | 6, ⟨b0, b1, h0, h1, h2⟩ => exact ⟨b0, b1, h0, h1.up hb', h2⟩
     | 7, ⟨b0, b1, b2, h0, h1, h2⟩ => exact ⟨b0, b1, b2, h0, h1.up hb', h2⟩
     | 8, hv => exact hv
     | 9, ⟨b0, b1, b2, h0, h1, h2⟩ => exact ⟨b0, b1, b2, h0.up hb', h1.up hb', h2⟩
     | 10, h0 => exact h0.up hb'
     | 11, h0 => exact h0.up hb'
     | 12, h0 => exact h0.up hb'
     | _ + 13, _ => trivial
    ·intro jq hj
     match jq, hj with
     | 0, hj => exact absurd hj (by decide)
     | 1, hj => exact absurd hj (by decide)
     | 2, hj => exact absurd hj (by decide)
     | 3, hj => exact absurd hj (by decide)
     | 4, hj => exact absurd hj (by decide)
     | 5, hj => exact absurd hj (by decide)
     | 6, hj => exact absurd hj (by decide)
     | 7, hj => exact absurd hj (by decide)
     | 8, hj => exact absurd hj (by decide)
     | 9, hj => exact absurd hj (by decide)
     | 10, _ => exact HSr.out
     | 11, _ => exact HCr.out
     | 12, _ => exact HOr.out
     | _ + 13, _ => trivial
    ·refine ⟨?_, ?_, ?_, ?_, ?_, ?_, ?_, ?_, ?_, ?_, trivial⟩
     ·intro xq w6 hb6 hx K hK0
      have hK := fun v w' hb => hK0 v w' (.inl hb)
      clear hx hKc hK0
      have hsz1 := hb6.size
      simp only [frameOf, fill, setSlot, sg, Nat.reduceBEq, if_true, if_false, Nat.reduceAdd, Nat.reduceEqDiff, HSL.out] at hK ⊢
      go_wp2_with (fail)
      exact hK _ _ (Below.refl _ _) rfl
     ·intro xq w6 hb6 hx K hK0
      have hK := fun v w' hb => hK0 v w' (.inl hb)
      have e48 : xq 48 = .pointer (some ⟨w2.heap.size + 1, 2, none⟩) := hx 0 (by rfl) (by rfl)
      have fic_0 : Holds w6 (w2.heap.size + 1) 27 #[.int .i64 full, .int .i64 emp, sv] := hx 11 (by rfl) (by rfl)
      clear hx hKc hK0
      have hsz1 := hb6.size
      obtain ⟨kc0, kc1, kc2⟩ := fic_0.c3
      simp only [frameOf, fill, setSlot, sg, Nat.reduceBEq, if_true, if_false, Nat.reduceAdd, Nat.reduceEqDiff, HSL.out] at hK ⊢
      simp only [e48] at hK ⊢
      clear e48
      go_wp2_with (fail)
      exact hK _ _ (Below.refl _ _) rfl
     ·intro xq w6 hb6 hx K hK0
      have hK := fun v w' hb => hK0 v w' (.inl hb)
      clear hx hKc hK0
      have hsz1 := hb6.size
      simp only [frameOf, fill, setSlot, sg, Nat.reduceBEq, if_true, if_false, Nat.reduceAdd, Nat.reduceEqDiff, HSL.out] at hK ⊢
      go_wp2_with (fail)
      exact hK _ _ (Below.refl _ _) rfl
     ·intro xq w6 hb6 hx K hK0
      have hK := fun v w' hb => hK0 v w' (.inl hb)
      clear hx hKc hK0
      have hsz1 := hb6.size
      have hq := Hg5.out.but hb6 (by simp; omega) (by decide)
      obtain ⟨kg0, kg1, kg2⟩ := hq.c3
      clear hq
      simp only [frameOf, fill, setSlot, sg, Nat.reduceBEq, if_true, if_false, Nat.reduceAdd, Nat.reduceEqDiff, HSL.out] at hK ⊢
      go_wp2_with (fail)
      exact hK _ _ (Below.refl _ _) rfl
     ·intro xq w6 hb6 hx K hK0
      have hK := fun v w' hb => hK0 v w' (.inl hb)
      clear hx hKc hK0
      have hsz1 := hb6.size
      have hq := Hn5.out.but hb6 (by simp; omega) (by decide)
      obtain ⟨kn0, kn1, kn2, kn3⟩ := hq.c4
      clear hq
      simp only [frameOf, fill, setSlot, sg, Nat.reduceBEq, if_true, if_false, Nat.reduceAdd, Nat.reduceEqDiff, HSL.out] at hK ⊢
      go_wp2_with (fail)
      exact hK _ _ (Below.refl _ _) rfl
     ·intro xq w6 hb6 hx K hK0
      have hK := fun v w' hb => hK0 v w' (.inr hb)
      have e50 : xq 50 = .pointer (some ⟨w2.heap.size + 1 + 1 + 1, 0, none⟩) := hx 2 (by rfl) (by rfl)
      have e51 : xq 51 = .agg #[.int .i64 err, .int .i64 miss, .slice G gs.length d] := hx 3 (by rfl) (by rfl)
      have e52 : xq 52 = .agg #[.int .i64 n0, .int .i64 n1, .int .i64 n2, .int .i64 n3] := hx 4 (by rfl) (by rfl)
      have fiS_0 : Holds w6 (w2.heap.size + 1 + 1 + 1) 172 #[.slice a1 len1 cap1, .int .i64 ((tk : Nat) : Int), .int .u32 mm_] := hx 10 (by rfl) (by rfl)
      clear hx hKc hK0
      have hsz1 := hb6.size
      simp only [frameOf, fill, setSlot, sg, Nat.reduceBEq, if_true, if_false, Nat.reduceAdd, Nat.reduceEqDiff, HSL.out] at hK ⊢
      simp only [e50, e51, e52] at hK ⊢
      clear e50 e51 e52
      go_wp2_with (go_at_call 69; refine (Taken_any (w2.heap.size + 1 + 1 + 1) a1 len1 cap1 tk mm_ err miss G gs.length d n0 n1 n2 n3 HNX.out i0m i2m _ fiS_0 (HY1.out.up (HB5.out.trans hb6.below)) hn1 (by omega)).mono ?_; rintro e w2_ ⟨y, tkx, mmx, rfl, hok, htk', hsk, g⟩)
      refine hK _ _ ⟨(hb6.listed hsz5 g (by simp) (by omega)), ?_⟩ ⟨y, tkx, mmx, rfl, hok, htk', hsk⟩
      intro jq xq hd hne hv
      match jq, hd, hne, hv with
      | 0, _, _, hv => exact hv
      | 1, _, _, hv => exact hv
      | 2, _, _, hv => exact hv
      | 3, _, _, hv => exact hv
      | 4, _, _, hv => exact hv
      | 5, _, hne, _ => exact absurd rfl hne
      | 6, _, _, hv => obtain ⟨b, y', e1, h1, h2⟩ := hv; exact ⟨b, y', e1, h1.other fiS_0 g (by decide), h2⟩
      | 7, _, _, hv => obtain ⟨a1_, d1, y', e1, h1, h2⟩ := hv; exact ⟨a1_, d1, y', e1, row_other_block h1 fiS_0 (by decide) g, h2⟩
      | 8, _, _, hv => exact hv
      | 9, _, _, hv => obtain ⟨a1_, d1, y', h0, h1, h2⟩ := hv; exact ⟨a1_, d1, y', h0.other fiS_0 g (by decide), row_other_block h1 fiS_0 (by decide) g, h2⟩
      | 10, hd, _, _ => exact absurd hd (by decide)
      | 11, _, _, hv => exact Holds.other hv fiS_0 g (by decide)
      | 12, _, _, hv => exact row_other_block hv fiS_0 (by decide) g
      | _ + 13, _, _, _ => trivial
     ·intro xq w6 hb6 hx K hK0
      have hK := fun v w' hb => hK0 v w' (.inl hb)
      obtain ⟨y53, tkx53, mmx53, e53, f53_0, f53_1, f53_2⟩ := hx 5 (by rfl) (by rfl)
      clear hx hKc hK0
      have hsz1 := hb6.size
      simp only [frameOf, fill, setSlot, sg, Nat.reduceBEq, if_true, if_false, Nat.reduceAdd, Nat.reduceEqDiff, HSL.out] at hK ⊢
      simp only [e53] at hK ⊢
      clear e53
      go_wp2_with (fail)
      exact hK _ _ ((Below.refl _ _).alloc (Nat.le_refl _) _) ⟨_, _, rfl, Holds.new _ _ _, f53_0⟩
     ·intro xq w6 hb6 hx K hK0
      have hK := fun v w' hb => hK0 v w' (.inr hb)
      have e49 : xq 49 = sv := hx 1 (by rfl) (by rfl)
      obtain ⟨b54, y54, e54, f54_0, f54_1⟩ := hx 6 (by rfl) (by rfl)
      have fio_0 : OwnHands w6 w.heap.size sv la := hx 12 (by rfl) (by rfl)
      have fic_0 : Holds w6 (w2.heap.size + 1) 27 #[.int .i64 full, .int .i64 emp, sv] := hx 11 (by rfl) (by rfl)
      clear hx hKc hK0
      have hsz1 := hb6.size
      have HO1 : Hid (w6.ownsRow w.heap.size 30 5 sv la.length (la.flatMap Hf.cells)) := Lib.hid fio_0
      simp only [frameOf, fill, setSlot, sg, Nat.reduceBEq, if_true, if_false, Nat.reduceAdd, Nat.reduceEqDiff, HSL.out] at hK ⊢
      simp only [e49, e54] at hK ⊢
      clear e49 e54
      go_wp2_with (at_builtin; (refine wpList_append_own _ rfl _ _ 25 rfl w.heap.size 30 ti _ 5 40 und_hands hti hti0 hti1 hti2 rfl (by decide) _ _ _ rfl HO1.out ⟨b54, 0, none⟩ 1 1 y54.cells rfl rfl (holds_news f54_0) (hand_one _) (by unfold maxLen; omega) (by omega) (by omega) ?_); intro v5 w5_ hown5 hgrow5 _; obtain ⟨A5, c5, rfl, _⟩ := row5_val hown5; have ho5 := OwnHands.snoc (h := y54) hown5; have HO5 := Lib.hid ho5; have HG5 := Lib.hid hgrow5; clear hown5 hgrow5 ho5)
      refine hK _ _ ⟨(hb6.row hsz5 HO1.out (Nat.le_refl _) HG5.out), ?_⟩ ⟨_, _, _, rfl, HO5.out, f54_1⟩
      intro jq xq hd hne hv
      match jq, hd, hne, hv with
      | 0, _, _, hv => exact hv
      | 1, _, _, hv => exact hv
      | 2, _, _, hv => exact hv
      | 3, _, _, hv => exact hv
      | 4, _, _, hv => exact hv
      | 5, _, _, hv => obtain ⟨y', x6, x7, e1, h1, h2, h3⟩ := hv; exact ⟨y', x6, x7, e1, h1, h2, h3.row_turned HO1.out (by decide) HG5.out⟩
      | 6, hd, _, _ => exact absurd hd (by decide)
      | 7, _, hne, _ => exact absurd rfl hne
      | 8, _, _, hv => exact hv
      | 9, _, _, hv => obtain ⟨_, _, _, h9, _⟩ := hv; exact (row_over h9 fic_0 HO1.out rfl).elim
      | 10, hd, _, _ => exact absurd hd (by decide)
      | 11, _, _, hv => exact Holds.row_turned hv HO1.out (by decide) HG5.out
      | 12, hd, _, _ => exact absurd hd (by decide)
      | _ + 13, _, _, _ => trivial
     ·intro xq w6 hb6 hx K hK0
      have hK := fun v w' hb => hK0 v w' (.inl hb)
      clear hx hKc hK0
      have hsz1 := hb6.size
      simp only [frameOf, fill, setSlot, sg, Nat.reduceBEq, if_true, if_false, Nat.reduceAdd, Nat.reduceEqDiff, HSL.out] at hK ⊢
      go_wp2_with (fail)
      exact hK _ _ (Below.refl _ _) rfl
     ·intro xq w6 hb6 hx K hK0
      have hK := fun v w' hb => hK0 v w' (.inr hb)
      obtain ⟨A255, d255, y55, e55, f55_0, f55_1⟩ := hx 7 (by rfl) (by rfl)
      have e56 : xq 56 = .pointer (some ⟨w2.heap.size + 1, 2, none⟩) := hx 8 (by rfl) (by rfl)
      have fic_0 : Holds w6 (w2.heap.size + 1) 27 #[.int .i64 full, .int .i64 emp, sv] := hx 11 (by rfl) (by rfl)
      clear hx hKc hK0
      have hsz1 := hb6.size
      obtain ⟨kc0, kc1, kc2⟩ := fic_0.c3
      obtain ⟨zc0, zc1, zc2⟩ := fic_0.f3
      simp only [frameOf, fill, setSlot, sg, Nat.reduceBEq, if_true, if_false, Nat.reduceAdd, Nat.reduceEqDiff, HSL.out] at hK ⊢
      have E55 := Lib.hid e55
      have E56 := Lib.hid e56
      simp only [e55, e56] at hK ⊢
      clear e55 e56
      go_wp2_with (fail)
      refine hK undef _ ⟨(hb6.listed hsz5 (grown_set w6 ⟨w2.heap.size + 1, 2, none⟩ _) (by simp) (by show w.heap.size ≤ w2.heap.size + 1; omega)), ?_⟩ ⟨A255, d255, y55, (by have h := fic_0; exact zp4), row_other_block f55_0 fic_0 (by decide) (grown_set w6 ⟨w2.heap.size + 1, 2, none⟩ _), f55_1⟩
      intro jq xq hd hne hv
      match jq, hd, hne, hv with
      | 0, _, _, hv => exact hv
      | 1, _, _, hv => exact hv
      | 2, _, _, hv => exact hv
      | 3, _, _, hv => exact hv
      | 4, _, _, hv => exact hv
      | 5, _, _, hv => obtain ⟨y', x6, x7, e1, h1, h2, h3⟩ := hv; exact ⟨y', x6, x7, e1, h1, h2, h3.far (by simp only [ne_eq]; omega) _⟩
      | 6, hd, _, _ => exact absurd hd (by decide)
      | 7, _, _, hv => obtain ⟨a1_, d1, y', e1, h1, h2⟩ := hv; exact ⟨a1_, d1, y', e1, row_other_block h1 fic_0 (by decide) (grown_set w6 ⟨w2.heap.size + 1, 2, none⟩ _), h2⟩
      | 8, _, _, hv => exact hv
      | 9, _, hne, _ => exact absurd rfl hne
      | 10, hd, _, _ => exact absurd hd (by decide)
      | 11, hd, _, _ => exact absurd hd (by decide)
      | 12, _, _, hv => exact row_other_block hv fic_0 (by decide) (grown_set w6 ⟨w2.heap.size + 1, 2, none⟩ _)
      | _ + 13, _, _, _ => trivial
    ·intro xq w6 hb6 hx
     have e48 : xq 48 = .pointer (some ⟨w2.heap.size + 1, 2, none⟩) := hx 0 (by decide)
     have e49 : xq 49 = sv := hx 1 (by decide)
     have e50 : xq 50 = .pointer (some ⟨w2.heap.size + 1 + 1 + 1, 0, none⟩) := hx 2 (by decide)
     have e51 : xq 51 = .agg #[.int .i64 err, .int .i64 miss, .slice G gs.length d] := hx 3 (by decide)
     have e52 : xq 52 = .agg #[.int .i64 n0, .int .i64 n1, .int .i64 n2, .int .i64 n3] := hx 4 (by decide)
     obtain ⟨y53, tkx53, mmx53, e53, f53_0, f53_1, f53_2⟩ := hx 5 (by decide)
     obtain ⟨A255, d255, y55, e55, f55_0, f55_1⟩ := hx 7 (by decide)
     have e56 : xq 56 = .pointer (some ⟨w2.heap.size + 1, 2, none⟩) := hx 8 (by decide)
     obtain ⟨A2n9, d2n9, yn9, fn9_0, fn9_1, fn9_2⟩ := hx 9 (by decide)
     clear hx
     have hsz1 := hb6.size
     simp only [frameOf, fill, setSlot, sg, Nat.reduceBEq, if_true, if_false, Nat.reduceAdd, Nat.reduceEqDiff, HSL.out]
     simp only [e48, e49, e50, e51, e52, e53, e55, e56]
     clear e48 e49 e50 e51 e52 e53 e55 e56
     refine hKc _ _ ?_
     have hszz := fn9_0.lt
     go_wp2_with fail
     go_roundw
     case rel =>
      refine ⟨ex ++ [yn9], _, tkx53, mmx53, (by rw [List.length_append, List.length_singleton]; first | rfl | go_num | simp), (by rw [List.length_append, List.length_singleton]; omega), ?_, (by rw [List.length_append, List.length_singleton]; omega), f53_2, fn9_0, (by rw [← List.append_assoc, ← HLA.out]; exact fn9_1), hb6⟩
      intro z hz
      rcases List.mem_append.1 hz with hz | hz
      ·exact HXT.out z hz
      ·rw [List.mem_singleton] at hz; subst hz; exact fn9_2
     case measure => simp [intOf]; omega
  ·as_aux_lemma =>
    have hre : (ex.length : Int) = rr := by omega
    clear hlt
    obtain ⟨H', q', e1, hq', hH'⟩ := OwnHands.at_ HOr.out
    subst e1
    have HHr := Lib.hid hH'
    have Hccr := HCr
    have Hgr := Lib.hid (Hg5.out.but HQr.out (by simp; omega) (by decide))
    have hogr := HOG5.out.but HQr.out (fun l hl cs f e => by rcases List.mem_cons.1 hl with rfl | hl; (have := HS5.out.symm.trans e; simp at this); rcases List.mem_cons.1 hl with rfl | hl; (have := Hc5.out.symm.trans e; simp at this); cases hl)
    have hgd0 := nil_row hogr
    obtain ⟨_, _, e1, hgd, hG⟩ := OwnGrades.at_ hogr
    cases e1
    have HGr := Lib.hid hG
    have HBr : Hid (Below w.heap.size w wr) := Lib.hid (HB5.out.trans HQr.out.below)
    have hsr := HBr.out.size
    clear hH' hogr hG
    have hlt_ : ∀ x ∈ la, x.taken = true ∧ x.enough = true := by rw [HLA.out]; intro x hx; rcases List.mem_append.1 hx with hx | hx; exact ⟨(HOK.out.taken x hx).taken, (HOK.out.taken x hx).enough⟩; exact ⟨(HXT.out x hx).taken, (HXT.out x hx).enough⟩
    have hce : cartErr full emp la = 0 := cart_zero la6 (by omega) (by omega) (by omega) (by omega) hlt_
    have hge := HOK.out.gate (by omega)
    have hbe : bothErr err miss gs full emp la = 0 := by unfold bothErr; rw [hge, hce]; simp
    obtain ⟨x7, hx7⟩ : ∃ z, z = a2 % 7 := ⟨_, rfl⟩
    obtain ⟨y7, hy7⟩ : ∃ z, z = a2 / 7 := ⟨_, rfl⟩
    obtain ⟨z9, hz9⟩ : ∃ z, z = y7 % 9 := ⟨_, rfl⟩
    obtain ⟨er, her⟩ : ∃ z, z = min 50 (err + x7) := ⟨_, rfl⟩
    obtain ⟨mi, hmi⟩ : ∃ z, z = min 20 (miss + z9) := ⟨_, rfl⟩
    have b7 : 0 ≤ x7 ∧ x7 ≤ 6 := by omega
    have c7 : 0 ≤ y7 ∧ y7 ≤ 36 := by omega
    have d7 : 0 ≤ z9 ∧ z9 ≤ 8 := by omega
    have ber : err ≤ er ∧ er ≤ 50 := by omega
    have bmi : miss ≤ mi ∧ mi ≤ 20 := by omega
    have hbe' : bothErr er mi gs full emp la = 0 := by unfold bothErr; rw [gate_wide hge ber bmi, hce]; simp
    have HX7 := Lib.hid hx7
    have HY7 := Lib.hid hy7
    have HZ9 := Lib.hid hz9
    have HER := Lib.hid her
    have HMI := Lib.hid hmi
    have HE := Lib.hid hbe
    have HE' := Lib.hid hbe'
    have HTE := Lib.hid hlt_
    clear hx7 hy7 hz9 her hmi hbe hbe' hlt_ hce hge
    have hgl' : gs.length ≤ 1000 := by omega
    have hla' : la.length ≤ 1000 := by omega
    obtain ⟨kg0, kg1, kg2⟩ := Hgr.out.c3
    have lt_g : w2.heap.size < wr.heap.size := Hgr.out.lt
    go_wp2_with fail
    refine (Own_any err miss G d gs _ (HGr.out.up zg) hgl' hgd0).mono ?_
    rintro e w7 ⟨G', d', rfl, hown, hgd', hb7⟩
    have Hg7 := Lib.hid (Holds.up (by have h := Hgr.out; exact zp4 : Holds _ (w2.heap.size) 24 #[.int .i64 err, .int .i64 miss, .slice G gs.length d]) hb7)
    have Hcc7 := Lib.hid (Holds.up (by have h := Hccr.out; exact zp4 : Holds _ (w2.heap.size + 1) 27 #[.int .i64 full, .int .i64 emp, .slice H' la.length q']) hb7)
    have HS7 : Hid (Below wr.heap.size wr w7) := Lib.hid (Below.trans zg (hb7.mono (by first | exact Nat.le_refl _ | omega | (simp; done) | (simp; omega))))
    have HB7 : Hid (Below w.heap.size w w7) := Lib.hid (HBr.out.trans (HS7.out.mono hsr))
    have hs7 := HB7.out.size
    have hst7 := HS7.out.size
    have HG7 := Lib.hid (HGr.out.up HS7.out)
    have HH7 := Lib.hid (HHr.out.up HS7.out)
    clear hb7
    obtain ⟨_, _, e1, _, hG'⟩ := OwnGrades.at_ hown
    cases e1
    have HJ7 := Lib.hid hG'
    clear hown hG'
    clear kg0 kg1 kg2 lt_g
    go_wp2_with fail
    rename_i Kc hKc
    have HSL := Lib.hid (show slotsOf [some 60, some 61, some 62, some 63, some 64, some 65, some 66, some 67, some 68, some 69, some 70, some 71, some 72, some 73, some 74, some 75, none, some 76, none] = [60, 61, 62, 63, 64, 65, 66, 67, 68, 69, 70, 71, 72, 73, 74, 75, 76] from rfl)
    refine wp_region_partsG (by kernel_rfl) [some 60, some 61, some 62, some 63, some 64, some 65, some 66, some 67, some 68, some 69, some 70, some 71, some 72, some 73, some 74, some 75, none, some 76, none] (fun jq xq w' => match jq with
     | 0 => xq 60 = .pointer (some ⟨w2.heap.size, 0, none⟩)
     | 1 => xq 61 = .int .i64 err
     | 2 => xq 62 = .int .u8 a2
     | 3 => xq 63 = .int .i64 a2
     | 4 => xq 64 = .int .i64 x7
     | 5 => xq 65 = .int .i64 (err + x7)
     | 6 => xq 66 = .int .i64 er
     | 7 => xq 67 = .pointer (some ⟨w2.heap.size, 1, none⟩)
     | 8 => xq 68 = .int .i64 miss
     | 9 => xq 69 = .int .u8 a2
     | 10 => xq 70 = .int .i64 a2
     | 11 => xq 71 = .int .i64 y7
     | 12 => xq 72 = .int .i64 z9
     | 13 => xq 73 = .int .i64 (miss + z9)
     | 14 => xq 74 = .int .i64 mi
     | 15 => xq 75 = .pointer (some ⟨w7.heap.size, 0, none⟩)
     | 16 => Holds w' w7.heap.size 24 #[.int .i64 er, .int .i64 miss, .slice G' gs.length d']
     | 17 => xq 76 = .pointer (some ⟨w7.heap.size, 1, none⟩)
     | 18 => Holds w' w7.heap.size 24 #[.int .i64 er, .int .i64 mi, .slice G' gs.length d']
     | 19 => Holds w' w7.heap.size 24 #[.int .i64 err, .int .i64 miss, .slice G' gs.length d']
     | _ => True) [[60], [61], [62], [63], [64], [65], [66], [67], [68], [69], [70], [71], [72], [73], [74], [75], [], [76], [], []] [(16, 19), (18, 16), (18, 19)] (fun w' => Below w7.heap.size w7 w') (by kernel_rfl)  ?_ ?_ (fun w' w'' hb h => h.trans (hb.mono h.size)) zg ?_ ?_ ?_
    ·intro jq xq xq' wqq h hv
     match jq, h, hv with
     | 0, h, hv => show xq' 60 = .pointer (some ⟨w2.heap.size, 0, none⟩); rw [← h 60 (by decide)]; exact hv
     | 1, h, hv => show xq' 61 = .int .i64 err; rw [← h 61 (by decide)]; exact hv
     | 2, h, hv => show xq' 62 = .int .u8 a2; rw [← h 62 (by decide)]; exact hv
     | 3, h, hv => show xq' 63 = .int .i64 a2; rw [← h 63 (by decide)]; exact hv
     | 4, h, hv => show xq' 64 = .int .i64 x7; rw [← h 64 (by decide)]; exact hv
     | 5, h, hv => show xq' 65 = .int .i64 (err + x7); rw [← h 65 (by decide)]; exact hv
     | 6, h, hv => show xq' 66 = .int .i64 er; rw [← h 66 (by decide)]; exact hv
     | 7, h, hv => show xq' 67 = .pointer (some ⟨w2.heap.size, 1, none⟩); rw [← h 67 (by decide)]; exact hv
     | 8, h, hv => show xq' 68 = .int .i64 miss; rw [← h 68 (by decide)]; exact hv
     | 9, h, hv => show xq' 69 = .int .u8 a2; rw [← h 69 (by decide)]; exact hv
     | 10, h, hv => show xq' 70 = .int .i64 a2; rw [← h 70 (by decide)]; exact hv
     | 11, h, hv => show xq' 71 = .int .i64 y7; rw [← h 71 (by decide)]; exact hv
     | 12, h, hv => show xq' 72 = .int .i64 z9; rw [← h 72 (by decide)]; exact hv
     | 13, h, hv => show xq' 73 = .int .i64 (miss + z9); rw [← h 73 (by decide)]; exact hv
     | 14, h, hv => show xq' 74 = .int .i64 mi; rw [← h 74 (by decide)]; exact hv
     | 15, h, hv => show xq' 75 = .pointer (some ⟨w7.heap.size, 0, none⟩); rw [← h 75 (by decide)]; exact hv
     | 16, h, hv => exact hv
     | 17, h, hv => show xq' 76 = .pointer (some ⟨w7.heap.size, 1, none⟩); rw [← h 76 (by decide)]; exact hv
     | 18, h, hv => exact hv
     | 19, h, hv => exact hv
     | _ + 20, _, _ => trivial
    ·intro jq xq wqq w' hb' hv
     match jq, hv with
     | 0, hv => exact hv
     | 1, hv => exact hv
     | 2, hv => exact hv
     | 3, hv => exact hv
     | 4, hv => exact hv
     | 5, hv => exact hv
     | 6, hv => exact hv
     | 7, hv => exact hv
     | 8, hv => exact hv
     | 9, hv => exact hv
     | 10, hv => exact hv
     | 11, hv => exact hv
     | 12, hv => exact hv
     | 13, hv => exact hv
     | 14, hv => exact hv
     | 15, hv => exact hv
     | 16, h0 => exact h0.up hb'
     | 17, hv => exact hv
     | 18, h0 => exact h0.up hb'
     | 19, h0 => exact h0.up hb'
     | _ + 20, _ => trivial
    ·intro jq hj
     match jq, hj with
     | 0, hj => exact absurd hj (by decide)
     | 1, hj => exact absurd hj (by decide)
     | 2, hj => exact absurd hj (by decide)
     | 3, hj => exact absurd hj (by decide)
     | 4, hj => exact absurd hj (by decide)
     | 5, hj => exact absurd hj (by decide)
     | 6, hj => exact absurd hj (by decide)
     | 7, hj => exact absurd hj (by decide)
     | 8, hj => exact absurd hj (by decide)
     | 9, hj => exact absurd hj (by decide)
     | 10, hj => exact absurd hj (by decide)
     | 11, hj => exact absurd hj (by decide)
     | 12, hj => exact absurd hj (by decide)
     | 13, hj => exact absurd hj (by decide)
     | 14, hj => exact absurd hj (by decide)
     | 15, hj => exact absurd hj (by decide)
     | 16, hj => exact absurd hj (by decide)
     | 17, hj => exact absurd hj (by decide)
     | 18, hj => exact absurd hj (by decide)
     | 19, _ => exact Holds.new _ _ _
     | _ + 20, _ => trivial
    ·refine ⟨?_, ?_, ?_, ?_, ?_, ?_, ?_, ?_, ?_, ?_, ?_, ?_, ?_, ?_, ?_, ?_, ?_, ?_, ?_, trivial⟩
     ·intro xq w8 hb8 hx K hK0
      have hK := fun v w' hb => hK0 v w' (.inl hb)
      clear hx hKc hK0
      simp only [frameOf, fill, setSlot, sg, Nat.reduceBEq, if_true, if_false, Nat.reduceAdd, Nat.reduceEqDiff, HSL.out] at hK ⊢
      go_wp2_with (fail)
      exact hK _ _ (Below.refl _ _) rfl
     ·intro xq w8 hb8 hx K hK0
      have hK := fun v w' hb => hK0 v w' (.inl hb)
      have e60 : xq 60 = .pointer (some ⟨w2.heap.size, 0, none⟩) := hx 0 (by rfl) (by rfl)
      clear hx hKc hK0
      obtain ⟨k0, k1, k2⟩ := (Hg7.out.up hb8).c3
      simp only [frameOf, fill, setSlot, sg, Nat.reduceBEq, if_true, if_false, Nat.reduceAdd, Nat.reduceEqDiff, HSL.out] at hK ⊢
      simp only [e60] at hK ⊢
      clear e60
      go_wp2_with (fail)
      exact hK _ _ (Below.refl _ _) rfl
     ·intro xq w8 hb8 hx K hK0
      have hK := fun v w' hb => hK0 v w' (.inl hb)
      clear hx hKc hK0
      simp only [frameOf, fill, setSlot, sg, Nat.reduceBEq, if_true, if_false, Nat.reduceAdd, Nat.reduceEqDiff, HSL.out] at hK ⊢
      go_wp2_with (fail)
      exact hK _ _ (Below.refl _ _) rfl
     ·intro xq w8 hb8 hx K hK0
      have hK := fun v w' hb => hK0 v w' (.inl hb)
      have e62 : xq 62 = .int .u8 a2 := hx 2 (by rfl) (by rfl)
      clear hx hKc hK0
      simp only [frameOf, fill, setSlot, sg, Nat.reduceBEq, if_true, if_false, Nat.reduceAdd, Nat.reduceEqDiff, HSL.out] at hK ⊢
      simp only [e62] at hK ⊢
      clear e62
      go_wp2_with (fail)
      exact hK _ _ (Below.refl _ _) rfl
     ·intro xq w8 hb8 hx K hK0
      have hK := fun v w' hb => hK0 v w' (.inl hb)
      have e63 : xq 63 = .int .i64 a2 := hx 3 (by rfl) (by rfl)
      clear hx hKc hK0
      simp only [frameOf, fill, setSlot, sg, Nat.reduceBEq, if_true, if_false, Nat.reduceAdd, Nat.reduceEqDiff, HSL.out] at hK ⊢
      simp only [e63] at hK ⊢
      clear e63
      go_wp2_with (fail)
      exact hK _ _ (Below.refl _ _) (by rw [HX7.out])
     ·intro xq w8 hb8 hx K hK0
      have hK := fun v w' hb => hK0 v w' (.inl hb)
      have e61 : xq 61 = .int .i64 err := hx 1 (by rfl) (by rfl)
      have e64 : xq 64 = .int .i64 x7 := hx 4 (by rfl) (by rfl)
      clear hx hKc hK0
      simp only [frameOf, fill, setSlot, sg, Nat.reduceBEq, if_true, if_false, Nat.reduceAdd, Nat.reduceEqDiff, HSL.out] at hK ⊢
      simp only [e61, e64] at hK ⊢
      clear e61 e64
      go_wp2_with (fail)
      exact hK _ _ (Below.refl _ _) rfl
     ·intro xq w8 hb8 hx K hK0
      have hK := fun v w' hb => hK0 v w' (.inl hb)
      have e65 : xq 65 = .int .i64 (err + x7) := hx 5 (by rfl) (by rfl)
      clear hx hKc hK0
      simp only [frameOf, fill, setSlot, sg, Nat.reduceBEq, if_true, if_false, Nat.reduceAdd, Nat.reduceEqDiff, HSL.out] at hK ⊢
      simp only [e65] at hK ⊢
      clear e65
      go_wp2_with (fail)
      all_goals exact hK _ _ (Below.refl _ _) (congrArg (Value.int .i64) (by have := HER.out; omega))
     ·intro xq w8 hb8 hx K hK0
      have hK := fun v w' hb => hK0 v w' (.inl hb)
      clear hx hKc hK0
      simp only [frameOf, fill, setSlot, sg, Nat.reduceBEq, if_true, if_false, Nat.reduceAdd, Nat.reduceEqDiff, HSL.out] at hK ⊢
      go_wp2_with (fail)
      exact hK _ _ (Below.refl _ _) rfl
     ·intro xq w8 hb8 hx K hK0
      have hK := fun v w' hb => hK0 v w' (.inl hb)
      have e67 : xq 67 = .pointer (some ⟨w2.heap.size, 1, none⟩) := hx 7 (by rfl) (by rfl)
      clear hx hKc hK0
      obtain ⟨k0, k1, k2⟩ := (Hg7.out.up hb8).c3
      simp only [frameOf, fill, setSlot, sg, Nat.reduceBEq, if_true, if_false, Nat.reduceAdd, Nat.reduceEqDiff, HSL.out] at hK ⊢
      simp only [e67] at hK ⊢
      clear e67
      go_wp2_with (fail)
      exact hK _ _ (Below.refl _ _) rfl
     ·intro xq w8 hb8 hx K hK0
      have hK := fun v w' hb => hK0 v w' (.inl hb)
      clear hx hKc hK0
      simp only [frameOf, fill, setSlot, sg, Nat.reduceBEq, if_true, if_false, Nat.reduceAdd, Nat.reduceEqDiff, HSL.out] at hK ⊢
      go_wp2_with (fail)
      exact hK _ _ (Below.refl _ _) rfl
     ·intro xq w8 hb8 hx K hK0
      have hK := fun v w' hb => hK0 v w' (.inl hb)
      have e69 : xq 69 = .int .u8 a2 := hx 9 (by rfl) (by rfl)
      clear hx hKc hK0
      simp only [frameOf, fill, setSlot, sg, Nat.reduceBEq, if_true, if_false, Nat.reduceAdd, Nat.reduceEqDiff, HSL.out] at hK ⊢
      simp only [e69] at hK ⊢
      clear e69
      go_wp2_with (fail)
      exact hK _ _ (Below.refl _ _) rfl
     ·intro xq w8 hb8 hx K hK0
      have hK := fun v w' hb => hK0 v w' (.inl hb)
      have e70 : xq 70 = .int .i64 a2 := hx 10 (by rfl) (by rfl)
      clear hx hKc hK0
      simp only [frameOf, fill, setSlot, sg, Nat.reduceBEq, if_true, if_false, Nat.reduceAdd, Nat.reduceEqDiff, HSL.out] at hK ⊢
      simp only [e70] at hK ⊢
      clear e70
      go_wp2_with (fail)
      exact hK _ _ (Below.refl _ _) (by rw [HY7.out])
     ·intro xq w8 hb8 hx K hK0
      have hK := fun v w' hb => hK0 v w' (.inl hb)
      have e71 : xq 71 = .int .i64 y7 := hx 11 (by rfl) (by rfl)
      clear hx hKc hK0
      simp only [frameOf, fill, setSlot, sg, Nat.reduceBEq, if_true, if_false, Nat.reduceAdd, Nat.reduceEqDiff, HSL.out] at hK ⊢
      simp only [e71] at hK ⊢
      clear e71
      go_wp2_with (fail)
      exact hK _ _ (Below.refl _ _) (by rw [HZ9.out])
     ·intro xq w8 hb8 hx K hK0
      have hK := fun v w' hb => hK0 v w' (.inl hb)
      have e68 : xq 68 = .int .i64 miss := hx 8 (by rfl) (by rfl)
      have e72 : xq 72 = .int .i64 z9 := hx 12 (by rfl) (by rfl)
      clear hx hKc hK0
      simp only [frameOf, fill, setSlot, sg, Nat.reduceBEq, if_true, if_false, Nat.reduceAdd, Nat.reduceEqDiff, HSL.out] at hK ⊢
      simp only [e68, e72] at hK ⊢
      clear e68 e72
      go_wp2_with (fail)
      exact hK _ _ (Below.refl _ _) rfl
     ·intro xq w8 hb8 hx K hK0
      have hK := fun v w' hb => hK0 v w' (.inl hb)
      have e73 : xq 73 = .int .i64 (miss + z9) := hx 13 (by rfl) (by rfl)
      clear hx hKc hK0
      simp only [frameOf, fill, setSlot, sg, Nat.reduceBEq, if_true, if_false, Nat.reduceAdd, Nat.reduceEqDiff, HSL.out] at hK ⊢
      simp only [e73] at hK ⊢
      clear e73
      go_wp2_with (fail)
      all_goals exact hK _ _ (Below.refl _ _) (congrArg (Value.int .i64) (by have := HMI.out; omega))
     ·intro xq w8 hb8 hx K hK0
      have hK := fun v w' hb => hK0 v w' (.inl hb)
      clear hx hKc hK0
      simp only [frameOf, fill, setSlot, sg, Nat.reduceBEq, if_true, if_false, Nat.reduceAdd, Nat.reduceEqDiff, HSL.out] at hK ⊢
      go_wp2_with (fail)
      exact hK _ _ (Below.refl _ _) rfl
     ·intro xq w8 hb8 hx K hK0
      have hK := fun v w' hb => hK0 v w' (.inr hb)
      have e66 : xq 66 = .int .i64 er := hx 6 (by rfl) (by rfl)
      have e75 : xq 75 = .pointer (some ⟨w7.heap.size, 0, none⟩) := hx 15 (by rfl) (by rfl)
      have fiv_0 : Holds w8 w7.heap.size 24 #[.int .i64 err, .int .i64 miss, .slice G' gs.length d'] := hx 19 (by rfl) (by rfl)
      clear hx hKc hK0
      obtain ⟨v0, v1, v2⟩ := fiv_0.c3
      obtain ⟨y0, y1, y2⟩ := fiv_0.f3
      simp only [frameOf, fill, setSlot, sg, Nat.reduceBEq, if_true, if_false, Nat.reduceAdd, Nat.reduceEqDiff, HSL.out] at hK ⊢
      have E66 := Lib.hid e66
      have E75 := Lib.hid e75
      simp only [e66, e75] at hK ⊢
      clear e66 e75
      go_wp2_with (fail)
      refine hK undef _ ⟨zg, ?_⟩ (by have h := fiv_0; exact zp4)
      intro jq xq hd hne hv
      match jq, hd, hne, hv with
      | 0, _, _, hv => exact hv
      | 1, _, _, hv => exact hv
      | 2, _, _, hv => exact hv
      | 3, _, _, hv => exact hv
      | 4, _, _, hv => exact hv
      | 5, _, _, hv => exact hv
      | 6, _, _, hv => exact hv
      | 7, _, _, hv => exact hv
      | 8, _, _, hv => exact hv
      | 9, _, _, hv => exact hv
      | 10, _, _, hv => exact hv
      | 11, _, _, hv => exact hv
      | 12, _, _, hv => exact hv
      | 13, _, _, hv => exact hv
      | 14, _, _, hv => exact hv
      | 15, _, _, hv => exact hv
      | 16, _, hne, _ => exact absurd rfl hne
      | 17, _, _, hv => exact hv
      | 18, _, _, hv => exact Holds.setL (hv : Holds _ _ _ _) 0 _
      | 19, hd, _, _ => exact absurd hd (by decide)
      | _ + 20, _, _, _ => trivial
     ·intro xq w8 hb8 hx K hK0
      have hK := fun v w' hb => hK0 v w' (.inl hb)
      clear hx hKc hK0
      simp only [frameOf, fill, setSlot, sg, Nat.reduceBEq, if_true, if_false, Nat.reduceAdd, Nat.reduceEqDiff, HSL.out] at hK ⊢
      go_wp2_with (fail)
      exact hK _ _ (Below.refl _ _) rfl
     ·intro xq w8 hb8 hx K hK0
      have hK := fun v w' hb => hK0 v w' (.inr hb)
      have fn16_0 : Holds w8 w7.heap.size 24 #[.int .i64 er, .int .i64 miss, .slice G' gs.length d'] := hx 16 (by rfl) (by rfl)
      have e74 : xq 74 = .int .i64 mi := hx 14 (by rfl) (by rfl)
      have e76 : xq 76 = .pointer (some ⟨w7.heap.size, 1, none⟩) := hx 17 (by rfl) (by rfl)
      clear hx hKc hK0
      obtain ⟨v0, v1, v2⟩ := fn16_0.c3
      obtain ⟨y0, y1, y2⟩ := fn16_0.f3
      simp only [frameOf, fill, setSlot, sg, Nat.reduceBEq, if_true, if_false, Nat.reduceAdd, Nat.reduceEqDiff, HSL.out] at hK ⊢
      have E74 := Lib.hid e74
      have E76 := Lib.hid e76
      simp only [e74, e76] at hK ⊢
      clear e74 e76
      go_wp2_with (fail)
      refine hK undef _ ⟨zg, ?_⟩ (by have h := fn16_0; exact zp4)
      intro jq xq hd hne hv
      match jq, hd, hne, hv with
      | 0, _, _, hv => exact hv
      | 1, _, _, hv => exact hv
      | 2, _, _, hv => exact hv
      | 3, _, _, hv => exact hv
      | 4, _, _, hv => exact hv
      | 5, _, _, hv => exact hv
      | 6, _, _, hv => exact hv
      | 7, _, _, hv => exact hv
      | 8, _, _, hv => exact hv
      | 9, _, _, hv => exact hv
      | 10, _, _, hv => exact hv
      | 11, _, _, hv => exact hv
      | 12, _, _, hv => exact hv
      | 13, _, _, hv => exact hv
      | 14, _, _, hv => exact hv
      | 15, _, _, hv => exact hv
      | 16, hd, _, _ => exact absurd hd (by decide)
      | 17, _, _, hv => exact hv
      | 18, _, hne, _ => exact absurd rfl hne
      | 19, hd, _, _ => exact absurd hd (by decide)
      | _ + 20, _, _, _ => trivial
    ·intro xq w8 hb8 hx
     have e60 : xq 60 = .pointer (some ⟨w2.heap.size, 0, none⟩) := hx 0 (by decide)
     have e61 : xq 61 = .int .i64 err := hx 1 (by decide)
     have e62 : xq 62 = .int .u8 a2 := hx 2 (by decide)
     have e63 : xq 63 = .int .i64 a2 := hx 3 (by decide)
     have e64 : xq 64 = .int .i64 x7 := hx 4 (by decide)
     have e65 : xq 65 = .int .i64 (err + x7) := hx 5 (by decide)
     have e66 : xq 66 = .int .i64 er := hx 6 (by decide)
     have e67 : xq 67 = .pointer (some ⟨w2.heap.size, 1, none⟩) := hx 7 (by decide)
     have e68 : xq 68 = .int .i64 miss := hx 8 (by decide)
     have e69 : xq 69 = .int .u8 a2 := hx 9 (by decide)
     have e70 : xq 70 = .int .i64 a2 := hx 10 (by decide)
     have e71 : xq 71 = .int .i64 y7 := hx 11 (by decide)
     have e72 : xq 72 = .int .i64 z9 := hx 12 (by decide)
     have e73 : xq 73 = .int .i64 (miss + z9) := hx 13 (by decide)
     have e74 : xq 74 = .int .i64 mi := hx 14 (by decide)
     have e75 : xq 75 = .pointer (some ⟨w7.heap.size, 0, none⟩) := hx 15 (by decide)
     have e76 : xq 76 = .pointer (some ⟨w7.heap.size, 1, none⟩) := hx 17 (by decide)
     have fn18_0 : Holds w8 w7.heap.size 24 #[.int .i64 er, .int .i64 mi, .slice G' gs.length d'] := hx 18 (by decide)
     clear hx
     simp only [frameOf, fill, setSlot, sg, Nat.reduceBEq, if_true, if_false, Nat.reduceAdd, Nat.reduceEqDiff, HSL.out]
     simp only [e60, e61, e62, e63, e64, e65, e66, e67, e68, e69, e70, e71, e72, e73, e74, e75, e76]
     clear e60 e61 e62 e63 e64 e65 e66 e67 e68 e69 e70 e71 e72 e73 e74 e75 e76
     refine hKc _ _ ?_
     have HS8 : Hid (Below w7.heap.size w7 w8) := Lib.hid hb8
     have HB8 := Lib.hid (HB7.out.trans (hb8.mono hs7))
     have hs8 := HB8.out.size
     have hst8 := hb8.size
     have Hv8 := Lib.hid fn18_0
     have Hg8 := Lib.hid (Hg7.out.up hb8)
     have Hcc8 := Lib.hid (Hcc7.out.up hb8)
     have HG8 := Lib.hid (HG7.out.up hb8)
     have HH8 := Lib.hid (HH7.out.up hb8)
     have HJ8 := Lib.hid (HJ7.out.up hb8)
     clear hb8 fn18_0
     have hpos : ∀ x ∈ la, 0 < x.sum := fun x hx => by have := enough_parts (HTE.out x hx).2; show 0 < x.g0 + x.g1 + x.g2 + x.g3; omega
     have HPOS := Lib.hid hpos
     have hsub := bounds_wide bmi.1 (p := fun _ => true) (p' := fun _ => true) (fun _ h => h) hpos
     have HSUB := Lib.hid hsub
     clear hpos hsub
     cases hem : (boundsOf miss (fun _ => true) la).empty with
     | false =>
      as_aux_lemma =>
       have hem' := sub_nonempty HSUB.out hem
       obtain ⟨B, hBx⟩ : ∃ z, boundsOf miss (fun _ => true) la = z := ⟨_, rfl⟩
       obtain ⟨B', hBx'⟩ : ∃ z, boundsOf mi (fun _ => true) la = z := ⟨_, rfl⟩
       have hsb := HSUB.out
       rw [hBx, hBx'] at hsb
       have HEM := Lib.hid hem
       have HEM' := Lib.hid hem'
       have HBK : Hid B.ok := Lib.hid (hBx ▸ bounds_ok miss _ la)
       have HBK' : Hid B'.ok := Lib.hid (hBx' ▸ bounds_ok mi _ la)
       have HBT : Hid B.Tight := Lib.hid (hBx ▸ bounds_tight hem)
       have HSB := Lib.hid hsb
       have HBX := Lib.hid hBx
       have HBX' := Lib.hid hBx'
       clear hem hem' hBx hBx' hsb
       obtain ⟨nl, hnl⟩ : ∃ z, z = max 0 (full - emp - 2 * err) := ⟨_, rfl⟩
       obtain ⟨nh, hnh⟩ : ∃ z, z = max 0 (full - emp + 2 * err) := ⟨_, rfl⟩
       obtain ⟨ol, hol⟩ : ∃ z, z = max 0 (full - emp - 2 * er) := ⟨_, rfl⟩
       obtain ⟨oh, hoh⟩ : ∃ z, z = max 0 (full - emp + 2 * er) := ⟨_, rfl⟩
       have q1 : ol ≤ nl := by omega
       have q2 : nh ≤ oh := by omega
       have HN1 := Lib.hid (And.intro hnl hnh)
       have HN2 := Lib.hid (And.intro hol hoh)
       clear hnl hnh hol hoh
       obtain ⟨kg0, kg1, kg2⟩ := Hg8.out.c3
       have lt_g : w2.heap.size < w8.heap.size := Hg8.out.lt
       obtain ⟨kcc0, kcc1, kcc2⟩ := Hcc8.out.c3
       have lt_cc : w2.heap.size + 1 < w8.heap.size := Hcc8.out.lt
       go_wp2_with fail
       refine (Bounds_ok err miss full emp G H' d q' gs la _ (HG8.out.up zg) hgl' (HH8.out.up zg) hla' HE.out HEM.out).mono ?_
       rw [HBX.out]
       rintro e w9 ⟨rfl, hb9⟩
       have Hg9 := Lib.hid (Holds.up (by have h := Hg8.out; exact zp4 : Holds _ (w2.heap.size) 24 #[.int .i64 err, .int .i64 miss, .slice G gs.length d]) hb9)
       have Hcc9 := Lib.hid (Holds.up (by have h := Hcc8.out; exact zp4 : Holds _ (w2.heap.size + 1) 27 #[.int .i64 full, .int .i64 emp, .slice H' la.length q']) hb9)
       have Hv9 := Lib.hid (Holds.up (by have h := Hv8.out; exact zp4 : Holds _ (w7.heap.size) 24 #[.int .i64 er, .int .i64 mi, .slice G' gs.length d']) hb9)
       have HS9 : Hid (Below w8.heap.size w8 w9) := Lib.hid (Below.trans zg (hb9.mono (by first | exact Nat.le_refl _ | omega | (simp; done) | (simp; omega))))
       have HB9 : Hid (Below w.heap.size w w9) := Lib.hid (HB8.out.trans (HS9.out.mono hs8))
       have hs9 := HB9.out.size
       have hst9 := HS9.out.size
       have HG9 := Lib.hid (HG8.out.up HS9.out)
       have HH9 := Lib.hid (HH8.out.up HS9.out)
       have HJ9 := Lib.hid (HJ8.out.up HS9.out)
       clear hb9
       clear kg0 kg1 kg2 lt_g kcc0 kcc1 kcc2 lt_cc
       obtain ⟨kv0, kv1, kv2⟩ := Hv9.out.c3
       have lt_v : w7.heap.size < w9.heap.size := Hv9.out.lt
       obtain ⟨kcc0, kcc1, kcc2⟩ := Hcc9.out.c3
       have lt_cc : w2.heap.size + 1 < w9.heap.size := Hcc9.out.lt
       go_wp2_with fail
       refine (Bounds_ok er mi full emp G' H' d' q' gs la _ (HJ9.out.up zg) hgl' (HH9.out.up zg) hla' HE'.out HEM'.out).mono ?_
       rw [HBX'.out]
       rintro e w10 ⟨rfl, hb10⟩
       have Hg10 := Lib.hid (Holds.up (by have h := Hg9.out; exact zp4 : Holds _ (w2.heap.size) 24 #[.int .i64 err, .int .i64 miss, .slice G gs.length d]) hb10)
       have Hcc10 := Lib.hid (Holds.up (by have h := Hcc9.out; exact zp4 : Holds _ (w2.heap.size + 1) 27 #[.int .i64 full, .int .i64 emp, .slice H' la.length q']) hb10)
       have Hv10 := Lib.hid (Holds.up (by have h := Hv9.out; exact zp4 : Holds _ (w7.heap.size) 24 #[.int .i64 er, .int .i64 mi, .slice G' gs.length d']) hb10)
       have Ha10 := Lib.hid (Holds.up (zp4 : Holds _ (w9.heap.size) 76 #[.int .i64 B.l0, .int .i64 B.h0, .int .i64 B.l1, .int .i64 B.h1, .int .i64 B.l2, .int .i64 B.h2, .int .i64 B.l3, .int .i64 B.h3]) hb10)
       have HS10 : Hid (Below w9.heap.size w9 w10) := Lib.hid (Below.trans zg (hb10.mono (by first | exact Nat.le_refl _ | omega | (simp; done) | (simp; omega))))
       have HB10 : Hid (Below w.heap.size w w10) := Lib.hid (HB9.out.trans (HS10.out.mono hs9))
       have hs10 := HB10.out.size
       have hst10 := HS10.out.size
       have HG10 := Lib.hid (HG9.out.up HS10.out)
       have HH10 := Lib.hid (HH9.out.up HS10.out)
       have HJ10 := Lib.hid (HJ9.out.up HS10.out)
       clear hb10
       clear kv0 kv1 kv2 lt_v kcc0 kcc1 kcc2 lt_cc
       obtain ⟨kg0, kg1, kg2⟩ := Hg10.out.c3
       have lt_g : w2.heap.size < w10.heap.size := Hg10.out.lt
       obtain ⟨kcc0, kcc1, kcc2⟩ := Hcc10.out.c3
       have lt_cc : w2.heap.size + 1 < w10.heap.size := Hcc10.out.lt
       go_wp2_with fail
       refine (Net_ok err miss full emp G H' d q' gs la _ (HG10.out.up zg) hgl' (HH10.out.up zg) hla' HE.out).mono ?_
       rw [← HN1.out.1, ← HN1.out.2]
       rintro e w11 ⟨rfl, hb11⟩
       have Hg11 := Lib.hid (Holds.up (by have h := Hg10.out; exact zp4 : Holds _ (w2.heap.size) 24 #[.int .i64 err, .int .i64 miss, .slice G gs.length d]) hb11)
       have Hcc11 := Lib.hid (Holds.up (by have h := Hcc10.out; exact zp4 : Holds _ (w2.heap.size + 1) 27 #[.int .i64 full, .int .i64 emp, .slice H' la.length q']) hb11)
       have Hv11 := Lib.hid (Holds.up (by have h := Hv10.out; exact zp4 : Holds _ (w7.heap.size) 24 #[.int .i64 er, .int .i64 mi, .slice G' gs.length d']) hb11)
       have Ha11 := Lib.hid (Holds.up (by have h := Ha10.out; exact zp4 : Holds _ (w9.heap.size) 76 #[.int .i64 B.l0, .int .i64 B.h0, .int .i64 B.l1, .int .i64 B.h1, .int .i64 B.l2, .int .i64 B.h2, .int .i64 B.l3, .int .i64 B.h3]) hb11)
       have Hb11 := Lib.hid (Holds.up (zp4 : Holds _ (w10.heap.size) 76 #[.int .i64 B'.l0, .int .i64 B'.h0, .int .i64 B'.l1, .int .i64 B'.h1, .int .i64 B'.l2, .int .i64 B'.h2, .int .i64 B'.l3, .int .i64 B'.h3]) hb11)
       have HS11 : Hid (Below w10.heap.size w10 w11) := Lib.hid (Below.trans zg (hb11.mono (by first | exact Nat.le_refl _ | omega | (simp; done) | (simp; omega))))
       have HB11 : Hid (Below w.heap.size w w11) := Lib.hid (HB10.out.trans (HS11.out.mono hs10))
       have hs11 := HB11.out.size
       have hst11 := HS11.out.size
       have HG11 := Lib.hid (HG10.out.up HS11.out)
       have HH11 := Lib.hid (HH10.out.up HS11.out)
       have HJ11 := Lib.hid (HJ10.out.up HS11.out)
       clear hb11
       clear kg0 kg1 kg2 lt_g kcc0 kcc1 kcc2 lt_cc
       obtain ⟨kv0, kv1, kv2⟩ := Hv11.out.c3
       have lt_v : w7.heap.size < w11.heap.size := Hv11.out.lt
       obtain ⟨kcc0, kcc1, kcc2⟩ := Hcc11.out.c3
       have lt_cc : w2.heap.size + 1 < w11.heap.size := Hcc11.out.lt
       go_wp2_with fail
       refine (Net_ok er mi full emp G' H' d' q' gs la _ (HJ11.out.up zg) hgl' (HH11.out.up zg) hla' HE'.out).mono ?_
       rw [← HN2.out.1, ← HN2.out.2]
       rintro e w12 ⟨rfl, hb12⟩
       have Hg12 := Lib.hid (Holds.up (by have h := Hg11.out; exact zp4 : Holds _ (w2.heap.size) 24 #[.int .i64 err, .int .i64 miss, .slice G gs.length d]) hb12)
       have Hcc12 := Lib.hid (Holds.up (by have h := Hcc11.out; exact zp4 : Holds _ (w2.heap.size + 1) 27 #[.int .i64 full, .int .i64 emp, .slice H' la.length q']) hb12)
       have Hv12 := Lib.hid (Holds.up (by have h := Hv11.out; exact zp4 : Holds _ (w7.heap.size) 24 #[.int .i64 er, .int .i64 mi, .slice G' gs.length d']) hb12)
       have Ha12 := Lib.hid (Holds.up (by have h := Ha11.out; exact zp4 : Holds _ (w9.heap.size) 76 #[.int .i64 B.l0, .int .i64 B.h0, .int .i64 B.l1, .int .i64 B.h1, .int .i64 B.l2, .int .i64 B.h2, .int .i64 B.l3, .int .i64 B.h3]) hb12)
       have Hb12 := Lib.hid (Holds.up (by have h := Hb11.out; exact zp4 : Holds _ (w10.heap.size) 76 #[.int .i64 B'.l0, .int .i64 B'.h0, .int .i64 B'.l1, .int .i64 B'.h1, .int .i64 B'.l2, .int .i64 B'.h2, .int .i64 B'.l3, .int .i64 B'.h3]) hb12)
       have Hp12 := Lib.hid (Holds.up (zp4 : Holds _ (w11.heap.size) 60 #[.int .i64 nl, .int .i64 nh]) hb12)
       have HS12 : Hid (Below w11.heap.size w11 w12) := Lib.hid (Below.trans zg (hb12.mono (by first | exact Nat.le_refl _ | omega | (simp; done) | (simp; omega))))
       have HB12 : Hid (Below w.heap.size w w12) := Lib.hid (HB11.out.trans (HS12.out.mono hs11))
       have hs12 := HB12.out.size
       have hst12 := HS12.out.size
       have HG12 := Lib.hid (HG11.out.up HS12.out)
       have HH12 := Lib.hid (HH11.out.up HS12.out)
       have HJ12 := Lib.hid (HJ11.out.up HS12.out)
       clear hb12
       clear kv0 kv1 kv2 lt_v kcc0 kcc1 kcc2 lt_cc
       obtain ⟨kp0, kp1⟩ := Hp12.out.c2
       have lt_p : w11.heap.size < w12.heap.size := Hp12.out.lt
       go_wp2_with fail
       go_loopw [129] (fun v129 wr => ∃ k : Nat, v129 = .int .i64 (k : Int) ∧ k ≤ 4 ∧ Below w12.heap.size w12 wr) (fun v129 _ => 4 - (intOf v129).toNat)
       case atStart => exact ⟨0, rfl, by decide, zg⟩
       case round =>
        obtain ⟨k, rfl, hk4, hl⟩ := hrel
        have HSr := Lib.hid hl
        have hszl := hl.size
        clear hl
        have Hgr := Lib.hid (Hg12.out.up HSr.out)
        have Hccr := Lib.hid (Hcc12.out.up HSr.out)
        have Hvr := Lib.hid (Hv12.out.up HSr.out)
        have Har := Lib.hid (Ha12.out.up HSr.out)
        have Hbr := Lib.hid (Hb12.out.up HSr.out)
        have Hpr := Lib.hid (Hp12.out.up HSr.out)
        have HGr := Lib.hid (HG12.out.up HSr.out)
        have HHr := Lib.hid (HH12.out.up HSr.out)
        have HJr := Lib.hid (HJ12.out.up HSr.out)
        have HBr : Hid (Below w.heap.size w wr) := Lib.hid (HB12.out.trans (HSr.out.mono hs12))
        have hsr := HBr.out.size
        by_cases hlt : k < 4
        ·as_aux_lemma =>
          have hkk : (k : Int) < 4 := by omega
          obtain ⟨al, hal⟩ : ∃ z, z = bLo B k := ⟨_, rfl⟩
          obtain ⟨ah, hah⟩ : ∃ z, z = bHi B k := ⟨_, rfl⟩
          obtain ⟨bl, hbl⟩ : ∃ z, z = bLo B' k := ⟨_, rfl⟩
          obtain ⟨bh, hbh⟩ : ∃ z, z = bHi B' k := ⟨_, rfl⟩
          have p1 : bl ≤ al := by rw [hal, hbl]; exact sub_lo HSB.out HBT.out k
          have p2 : ah ≤ bh := by rw [hah, hbh]; exact sub_hi HSB.out HBT.out k
          have HAL := Lib.hid hal
          have HAH := Lib.hid hah
          have HBL := Lib.hid hbl
          have HBH := Lib.hid hbh
          clear hal hah hbl hbh
          go_wp2_with fail
          rename_i Kc hKc
          have HRL := Lib.hid (show List.range' 132 24 = [132, 133, 134, 135, 136, 137, 138, 139, 140, 141, 142, 143, 144, 145, 146, 147, 148, 149, 150, 151, 152, 153, 154, 155] from rfl)
          refine wp_region_partsR 132 24 (by kernel_rfl) [some 132, some 133, some 134, some 135, some 136, some 137, some 138, some 139, some 140, some 141, some 142, some 143, some 144, some 145, some 146, some 147, some 148, some 149, some 150, some 151, some 152, some 153, some 154, some 155] (fun jq xq w' => match jq with
           | 0 => xq 132 = .int .i64 0
           | 1 => xq 133 = .bool true
           | 2 => xq 134 = .bool true
           | 3 => xq 135 = .int .i64 (k : Int)
           | 4 => xq 136 = .pointer (some ⟨w10.heap.size, k * 2, none⟩)
           | 5 => xq 137 = .pointer (some ⟨w10.heap.size, k * 2, none⟩)
           | 6 => xq 138 = .int .i64 bl
           | 7 => xq 139 = .int .i64 (k : Int)
           | 8 => xq 140 = .pointer (some ⟨w9.heap.size, k * 2, none⟩)
           | 9 => xq 141 = .pointer (some ⟨w9.heap.size, k * 2, none⟩)
           | 10 => xq 142 = .int .i64 al
           | 11 => xq 143 = .bool false
           | 12 => xq 144 = .bool false
           | 13 => xq 145 = .int .i64 (k : Int)
           | 14 => xq 146 = .pointer (some ⟨w10.heap.size, k * 2, none⟩)
           | 15 => xq 147 = .pointer (some ⟨w10.heap.size, k * 2 + 1, none⟩)
           | 16 => xq 148 = .int .i64 bh
           | 17 => xq 149 = .int .i64 (k : Int)
           | 18 => xq 150 = .pointer (some ⟨w9.heap.size, k * 2, none⟩)
           | 19 => xq 151 = .pointer (some ⟨w9.heap.size, k * 2 + 1, none⟩)
           | 20 => xq 152 = .int .i64 ah
           | 21 => xq 153 = .bool false
           | 22 => xq 154 = .bool false
           | 23 => xq 155 = .bool false
           | _ => True) [[132], [133], [134], [135], [136], [137], [138], [139], [140], [141], [142], [143], [144], [145], [146], [147], [148], [149], [150], [151], [152], [153], [154], [155]] [] (fun w' => Below wr.heap.size wr w') (by kernel_rfl) (by kernel_rfl) (by rfl) ?_ ?_ (fun w' w'' hb h => h.trans (hb.mono h.size)) (Below.refl _ _) ?_ ?_ ?_
          ·intro jq xq xq' wqq h hv
           match jq, h, hv with
           | 0, h, hv => show xq' 132 = .int .i64 0; rw [← h 132 (by decide)]; exact hv
           | 1, h, hv => show xq' 133 = .bool true; rw [← h 133 (by decide)]; exact hv
           | 2, h, hv => show xq' 134 = .bool true; rw [← h 134 (by decide)]; exact hv
           | 3, h, hv => show xq' 135 = .int .i64 (k : Int); rw [← h 135 (by decide)]; exact hv
           | 4, h, hv => show xq' 136 = .pointer (some ⟨w10.heap.size, k * 2, none⟩); rw [← h 136 (by decide)]; exact hv
           | 5, h, hv => show xq' 137 = .pointer (some ⟨w10.heap.size, k * 2, none⟩); rw [← h 137 (by decide)]; exact hv
           | 6, h, hv => show xq' 138 = .int .i64 bl; rw [← h 138 (by decide)]; exact hv
           | 7, h, hv => show xq' 139 = .int .i64 (k : Int); rw [← h 139 (by decide)]; exact hv
           | 8, h, hv => show xq' 140 = .pointer (some ⟨w9.heap.size, k * 2, none⟩); rw [← h 140 (by decide)]; exact hv
           | 9, h, hv => show xq' 141 = .pointer (some ⟨w9.heap.size, k * 2, none⟩); rw [← h 141 (by decide)]; exact hv
           | 10, h, hv => show xq' 142 = .int .i64 al; rw [← h 142 (by decide)]; exact hv
           | 11, h, hv => show xq' 143 = .bool false; rw [← h 143 (by decide)]; exact hv
           | 12, h, hv => show xq' 144 = .bool false; rw [← h 144 (by decide)]; exact hv
           | 13, h, hv => show xq' 145 = .int .i64 (k : Int); rw [← h 145 (by decide)]; exact hv
           | 14, h, hv => show xq' 146 = .pointer (some ⟨w10.heap.size, k * 2, none⟩); rw [← h 146 (by decide)]; exact hv
           | 15, h, hv => show xq' 147 = .pointer (some ⟨w10.heap.size, k * 2 + 1, none⟩); rw [← h 147 (by decide)]; exact hv
           | 16, h, hv => show xq' 148 = .int .i64 bh; rw [← h 148 (by decide)]; exact hv
           | 17, h, hv => show xq' 149 = .int .i64 (k : Int); rw [← h 149 (by decide)]; exact hv
           | 18, h, hv => show xq' 150 = .pointer (some ⟨w9.heap.size, k * 2, none⟩); rw [← h 150 (by decide)]; exact hv
           | 19, h, hv => show xq' 151 = .pointer (some ⟨w9.heap.size, k * 2 + 1, none⟩); rw [← h 151 (by decide)]; exact hv
           | 20, h, hv => show xq' 152 = .int .i64 ah; rw [← h 152 (by decide)]; exact hv
           | 21, h, hv => show xq' 153 = .bool false; rw [← h 153 (by decide)]; exact hv
           | 22, h, hv => show xq' 154 = .bool false; rw [← h 154 (by decide)]; exact hv
           | 23, h, hv => show xq' 155 = .bool false; rw [← h 155 (by decide)]; exact hv
           | _ + 24, _, _ => trivial
          ·intro jq xq wqq w' hb' hv
           match jq, hv with
           | 0, hv => exact hv
           | 1, hv => exact hv
           | 2, hv => exact hv
           | 3, hv => exact hv
           | 4, hv => exact hv
           | 5, hv => exact hv
           | 6, hv => exact hv
           | 7, hv => exact hv
           | 8, hv => exact hv
           | 9, hv => exact hv
           | 10, hv => exact hv
           | 11, hv => exact hv
           | 12, hv => exact hv
           | 13, hv => exact hv
           | 14, hv => exact hv
           | 15, hv => exact hv
           | 16, hv => exact hv
           | 17, hv => exact hv
           | 18, hv => exact hv
           | 19, hv => exact hv
           | 20, hv => exact hv
           | 21, hv => exact hv
           | 22, hv => exact hv
           | 23, hv => exact hv
           | _ + 24, _ => trivial
          ·intro jq hj
           match jq, hj with
           | 0, hj => exact absurd hj (by decide)
           | 1, hj => exact absurd hj (by decide)
           | 2, hj => exact absurd hj (by decide)
           | 3, hj => exact absurd hj (by decide)
           | 4, hj => exact absurd hj (by decide)
           | 5, hj => exact absurd hj (by decide)
           | 6, hj => exact absurd hj (by decide)
           | 7, hj => exact absurd hj (by decide)
           | 8, hj => exact absurd hj (by decide)
           | 9, hj => exact absurd hj (by decide)
           | 10, hj => exact absurd hj (by decide)
           | 11, hj => exact absurd hj (by decide)
           | 12, hj => exact absurd hj (by decide)
           | 13, hj => exact absurd hj (by decide)
           | 14, hj => exact absurd hj (by decide)
           | 15, hj => exact absurd hj (by decide)
           | 16, hj => exact absurd hj (by decide)
           | 17, hj => exact absurd hj (by decide)
           | 18, hj => exact absurd hj (by decide)
           | 19, hj => exact absurd hj (by decide)
           | 20, hj => exact absurd hj (by decide)
           | 21, hj => exact absurd hj (by decide)
           | 22, hj => exact absurd hj (by decide)
           | 23, hj => exact absurd hj (by decide)
           | _ + 24, _ => trivial
          ·refine ⟨?_, ?_, ?_, ?_, ?_, ?_, ?_, ?_, ?_, ?_, ?_, ?_, ?_, ?_, ?_, ?_, ?_, ?_, ?_, ?_, ?_, ?_, ?_, ?_, trivial⟩
           ·intro xq w13 hb13 hx K hK0
            have hK := fun v w' hb => hK0 v w' (.inl hb)
            clear hx hKc hK0
            simp only [runOf, setSlot, HRL.out, sr, Nat.reduceAdd, Nat.reduceEqDiff, if_true, if_false] at hK ⊢
            go_wp2_with (fail)
            exact hK _ _ (Below.refl _ _) rfl
           ·intro xq w13 hb13 hx K hK0
            have hK := fun v w' hb => hK0 v w' (.inl hb)
            have e132 : xq 132 = .int .i64 0 := hx 0 (by rfl) (by rfl)
            clear hx hKc hK0
            simp only [runOf, setSlot, HRL.out, sr, Nat.reduceAdd, Nat.reduceEqDiff, if_true, if_false] at hK ⊢
            simp only [e132] at hK ⊢
            clear e132
            go_wp2_with (fail)
            exact hK _ _ (Below.refl _ _) rfl
           ·intro xq w13 hb13 hx K hK0
            have hK := fun v w' hb => hK0 v w' (.inl hb)
            have e133 : xq 133 = .bool true := hx 1 (by rfl) (by rfl)
            clear hx hKc hK0
            simp only [runOf, setSlot, HRL.out, sr, Nat.reduceAdd, Nat.reduceEqDiff, if_true, if_false] at hK ⊢
            simp only [e133] at hK ⊢
            clear e133
            go_wp2_with (fail)
            exact hK _ _ (Below.refl _ _) rfl
           ·intro xq w13 hb13 hx K hK0
            have hK := fun v w' hb => hK0 v w' (.inl hb)
            have e134 : xq 134 = .bool true := hx 2 (by rfl) (by rfl)
            clear hx hKc hK0
            simp only [runOf, setSlot, HRL.out, sr, Nat.reduceAdd, Nat.reduceEqDiff, if_true, if_false] at hK ⊢
            simp only [e134] at hK ⊢
            clear e134
            go_wp2_with (fail)
            exact hK _ _ (Below.refl _ _) rfl
           ·intro xq w13 hb13 hx K hK0
            have hK := fun v w' hb => hK0 v w' (.inl hb)
            have e134 : xq 134 = .bool true := hx 2 (by rfl) (by rfl)
            have e135 : xq 135 = .int .i64 (k : Int) := hx 3 (by rfl) (by rfl)
            clear hx hKc hK0
            simp only [runOf, setSlot, HRL.out, sr, Nat.reduceAdd, Nat.reduceEqDiff, if_true, if_false] at hK ⊢
            simp only [e134, e135] at hK ⊢
            clear e134 e135
            go_wp2_with (fail)
            exact hK _ _ (Below.refl _ _) rfl
           ·intro xq w13 hb13 hx K hK0
            have hK := fun v w' hb => hK0 v w' (.inl hb)
            have e134 : xq 134 = .bool true := hx 2 (by rfl) (by rfl)
            have e136 : xq 136 = .pointer (some ⟨w10.heap.size, k * 2, none⟩) := hx 4 (by rfl) (by rfl)
            clear hx hKc hK0
            simp only [runOf, setSlot, HRL.out, sr, Nat.reduceAdd, Nat.reduceEqDiff, if_true, if_false] at hK ⊢
            simp only [e134, e136] at hK ⊢
            clear e134 e136
            go_wp2_with (fail)
            exact hK _ _ (Below.refl _ _) rfl
           ·intro xq w13 hb13 hx K hK0
            have hK := fun v w' hb => hK0 v w' (.inl hb)
            have e134 : xq 134 = .bool true := hx 2 (by rfl) (by rfl)
            have e137 : xq 137 = .pointer (some ⟨w10.heap.size, k * 2, none⟩) := hx 5 (by rfl) (by rfl)
            clear hx hKc hK0
            have kq : w13.cell? ⟨w10.heap.size, k * 2, none⟩ = some (.int .i64 bl) := by rw [HBL.out]; exact cell8_lo (Hbr.out.up hb13) hlt
            simp only [runOf, setSlot, HRL.out, sr, Nat.reduceAdd, Nat.reduceEqDiff, if_true, if_false] at hK ⊢
            simp only [e134, e137] at hK ⊢
            clear e134 e137
            go_wp2_with (fail)
            exact hK _ _ (Below.refl _ _) rfl
           ·intro xq w13 hb13 hx K hK0
            have hK := fun v w' hb => hK0 v w' (.inl hb)
            have e134 : xq 134 = .bool true := hx 2 (by rfl) (by rfl)
            clear hx hKc hK0
            simp only [runOf, setSlot, HRL.out, sr, Nat.reduceAdd, Nat.reduceEqDiff, if_true, if_false] at hK ⊢
            simp only [e134] at hK ⊢
            clear e134
            go_wp2_with (fail)
            exact hK _ _ (Below.refl _ _) rfl
           ·intro xq w13 hb13 hx K hK0
            have hK := fun v w' hb => hK0 v w' (.inl hb)
            have e134 : xq 134 = .bool true := hx 2 (by rfl) (by rfl)
            have e139 : xq 139 = .int .i64 (k : Int) := hx 7 (by rfl) (by rfl)
            clear hx hKc hK0
            simp only [runOf, setSlot, HRL.out, sr, Nat.reduceAdd, Nat.reduceEqDiff, if_true, if_false] at hK ⊢
            simp only [e134, e139] at hK ⊢
            clear e134 e139
            go_wp2_with (fail)
            exact hK _ _ (Below.refl _ _) rfl
           ·intro xq w13 hb13 hx K hK0
            have hK := fun v w' hb => hK0 v w' (.inl hb)
            have e134 : xq 134 = .bool true := hx 2 (by rfl) (by rfl)
            have e140 : xq 140 = .pointer (some ⟨w9.heap.size, k * 2, none⟩) := hx 8 (by rfl) (by rfl)
            clear hx hKc hK0
            simp only [runOf, setSlot, HRL.out, sr, Nat.reduceAdd, Nat.reduceEqDiff, if_true, if_false] at hK ⊢
            simp only [e134, e140] at hK ⊢
            clear e134 e140
            go_wp2_with (fail)
            exact hK _ _ (Below.refl _ _) rfl
           ·intro xq w13 hb13 hx K hK0
            have hK := fun v w' hb => hK0 v w' (.inl hb)
            have e134 : xq 134 = .bool true := hx 2 (by rfl) (by rfl)
            have e141 : xq 141 = .pointer (some ⟨w9.heap.size, k * 2, none⟩) := hx 9 (by rfl) (by rfl)
            clear hx hKc hK0
            have kq : w13.cell? ⟨w9.heap.size, k * 2, none⟩ = some (.int .i64 al) := by rw [HAL.out]; exact cell8_lo (Har.out.up hb13) hlt
            simp only [runOf, setSlot, HRL.out, sr, Nat.reduceAdd, Nat.reduceEqDiff, if_true, if_false] at hK ⊢
            simp only [e134, e141] at hK ⊢
            clear e134 e141
            go_wp2_with (fail)
            exact hK _ _ (Below.refl _ _) rfl
           ·intro xq w13 hb13 hx K hK0
            have hK := fun v w' hb => hK0 v w' (.inl hb)
            have e134 : xq 134 = .bool true := hx 2 (by rfl) (by rfl)
            have e138 : xq 138 = .int .i64 bl := hx 6 (by rfl) (by rfl)
            have e142 : xq 142 = .int .i64 al := hx 10 (by rfl) (by rfl)
            clear hx hKc hK0
            simp only [runOf, setSlot, HRL.out, sr, Nat.reduceAdd, Nat.reduceEqDiff, if_true, if_false] at hK ⊢
            simp only [e134, e138, e142] at hK ⊢
            clear e134 e138 e142
            go_wp2_with (fail)
            exact hK _ _ (Below.refl _ _) (congrArg Value.bool (decide_eq_false (by omega)))
           ·intro xq w13 hb13 hx K hK0
            have hK := fun v w' hb => hK0 v w' (.inl hb)
            have e134 : xq 134 = .bool true := hx 2 (by rfl) (by rfl)
            have e143 : xq 143 = .bool false := hx 11 (by rfl) (by rfl)
            clear hx hKc hK0
            simp only [runOf, setSlot, HRL.out, sr, Nat.reduceAdd, Nat.reduceEqDiff, if_true, if_false] at hK ⊢
            simp only [e134, e143] at hK ⊢
            clear e134 e143
            go_wp2_with (fail)
            exact hK _ _ (Below.refl _ _) rfl
           ·intro xq w13 hb13 hx K hK0
            have hK := fun v w' hb => hK0 v w' (.inl hb)
            have e144 : xq 144 = .bool false := hx 12 (by rfl) (by rfl)
            clear hx hKc hK0
            simp only [runOf, setSlot, HRL.out, sr, Nat.reduceAdd, Nat.reduceEqDiff, if_true, if_false] at hK ⊢
            simp only [e144] at hK ⊢
            clear e144
            go_wp2_with (fail)
            exact hK _ _ (Below.refl _ _) rfl
           ·intro xq w13 hb13 hx K hK0
            have hK := fun v w' hb => hK0 v w' (.inl hb)
            have e144 : xq 144 = .bool false := hx 12 (by rfl) (by rfl)
            have e145 : xq 145 = .int .i64 (k : Int) := hx 13 (by rfl) (by rfl)
            clear hx hKc hK0
            simp only [runOf, setSlot, HRL.out, sr, Nat.reduceAdd, Nat.reduceEqDiff, if_true, if_false] at hK ⊢
            simp only [e144, e145] at hK ⊢
            clear e144 e145
            go_wp2_with (fail)
            exact hK _ _ (Below.refl _ _) rfl
           ·intro xq w13 hb13 hx K hK0
            have hK := fun v w' hb => hK0 v w' (.inl hb)
            have e144 : xq 144 = .bool false := hx 12 (by rfl) (by rfl)
            have e146 : xq 146 = .pointer (some ⟨w10.heap.size, k * 2, none⟩) := hx 14 (by rfl) (by rfl)
            clear hx hKc hK0
            simp only [runOf, setSlot, HRL.out, sr, Nat.reduceAdd, Nat.reduceEqDiff, if_true, if_false] at hK ⊢
            simp only [e144, e146] at hK ⊢
            clear e144 e146
            go_wp2_with (fail)
            exact hK _ _ (Below.refl _ _) rfl
           ·intro xq w13 hb13 hx K hK0
            have hK := fun v w' hb => hK0 v w' (.inl hb)
            have e144 : xq 144 = .bool false := hx 12 (by rfl) (by rfl)
            have e147 : xq 147 = .pointer (some ⟨w10.heap.size, k * 2 + 1, none⟩) := hx 15 (by rfl) (by rfl)
            clear hx hKc hK0
            have kq : w13.cell? ⟨w10.heap.size, k * 2 + 1, none⟩ = some (.int .i64 bh) := by rw [HBH.out]; exact cell8_hi (Hbr.out.up hb13) hlt
            simp only [runOf, setSlot, HRL.out, sr, Nat.reduceAdd, Nat.reduceEqDiff, if_true, if_false] at hK ⊢
            simp only [e144, e147] at hK ⊢
            clear e144 e147
            go_wp2_with (fail)
            exact hK _ _ (Below.refl _ _) rfl
           ·intro xq w13 hb13 hx K hK0
            have hK := fun v w' hb => hK0 v w' (.inl hb)
            have e144 : xq 144 = .bool false := hx 12 (by rfl) (by rfl)
            clear hx hKc hK0
            simp only [runOf, setSlot, HRL.out, sr, Nat.reduceAdd, Nat.reduceEqDiff, if_true, if_false] at hK ⊢
            simp only [e144] at hK ⊢
            clear e144
            go_wp2_with (fail)
            exact hK _ _ (Below.refl _ _) rfl
           ·intro xq w13 hb13 hx K hK0
            have hK := fun v w' hb => hK0 v w' (.inl hb)
            have e144 : xq 144 = .bool false := hx 12 (by rfl) (by rfl)
            have e149 : xq 149 = .int .i64 (k : Int) := hx 17 (by rfl) (by rfl)
            clear hx hKc hK0
            simp only [runOf, setSlot, HRL.out, sr, Nat.reduceAdd, Nat.reduceEqDiff, if_true, if_false] at hK ⊢
            simp only [e144, e149] at hK ⊢
            clear e144 e149
            go_wp2_with (fail)
            exact hK _ _ (Below.refl _ _) rfl
           ·intro xq w13 hb13 hx K hK0
            have hK := fun v w' hb => hK0 v w' (.inl hb)
            have e144 : xq 144 = .bool false := hx 12 (by rfl) (by rfl)
            have e150 : xq 150 = .pointer (some ⟨w9.heap.size, k * 2, none⟩) := hx 18 (by rfl) (by rfl)
            clear hx hKc hK0
            simp only [runOf, setSlot, HRL.out, sr, Nat.reduceAdd, Nat.reduceEqDiff, if_true, if_false] at hK ⊢
            simp only [e144, e150] at hK ⊢
            clear e144 e150
            go_wp2_with (fail)
            exact hK _ _ (Below.refl _ _) rfl
           ·intro xq w13 hb13 hx K hK0
            have hK := fun v w' hb => hK0 v w' (.inl hb)
            have e144 : xq 144 = .bool false := hx 12 (by rfl) (by rfl)
            have e151 : xq 151 = .pointer (some ⟨w9.heap.size, k * 2 + 1, none⟩) := hx 19 (by rfl) (by rfl)
            clear hx hKc hK0
            have kq : w13.cell? ⟨w9.heap.size, k * 2 + 1, none⟩ = some (.int .i64 ah) := by rw [HAH.out]; exact cell8_hi (Har.out.up hb13) hlt
            simp only [runOf, setSlot, HRL.out, sr, Nat.reduceAdd, Nat.reduceEqDiff, if_true, if_false] at hK ⊢
            simp only [e144, e151] at hK ⊢
            clear e144 e151
            go_wp2_with (fail)
            exact hK _ _ (Below.refl _ _) rfl
           ·intro xq w13 hb13 hx K hK0
            have hK := fun v w' hb => hK0 v w' (.inl hb)
            have e144 : xq 144 = .bool false := hx 12 (by rfl) (by rfl)
            have e148 : xq 148 = .int .i64 bh := hx 16 (by rfl) (by rfl)
            have e152 : xq 152 = .int .i64 ah := hx 20 (by rfl) (by rfl)
            clear hx hKc hK0
            simp only [runOf, setSlot, HRL.out, sr, Nat.reduceAdd, Nat.reduceEqDiff, if_true, if_false] at hK ⊢
            simp only [e144, e148, e152] at hK ⊢
            clear e144 e148 e152
            go_wp2_with (fail)
            exact hK _ _ (Below.refl _ _) (congrArg Value.bool (decide_eq_false (by omega)))
           ·intro xq w13 hb13 hx K hK0
            have hK := fun v w' hb => hK0 v w' (.inl hb)
            have e134 : xq 134 = .bool true := hx 2 (by rfl) (by rfl)
            have e144 : xq 144 = .bool false := hx 12 (by rfl) (by rfl)
            have e153 : xq 153 = .bool false := hx 21 (by rfl) (by rfl)
            clear hx hKc hK0
            simp only [runOf, setSlot, HRL.out, sr, Nat.reduceAdd, Nat.reduceEqDiff, if_true, if_false] at hK ⊢
            simp only [e134, e144, e153] at hK ⊢
            clear e134 e144 e153
            go_wp2_with (fail)
            exact hK _ _ (Below.refl _ _) rfl
           ·intro xq w13 hb13 hx K hK0
            have hK := fun v w' hb => hK0 v w' (.inl hb)
            have e134 : xq 134 = .bool true := hx 2 (by rfl) (by rfl)
            have e154 : xq 154 = .bool false := hx 22 (by rfl) (by rfl)
            clear hx hKc hK0
            simp only [runOf, setSlot, HRL.out, sr, Nat.reduceAdd, Nat.reduceEqDiff, if_true, if_false] at hK ⊢
            simp only [e134, e154] at hK ⊢
            clear e134 e154
            go_wp2_with (fail)
            exact hK _ _ (Below.refl _ _) rfl
          ·intro xq w13 hb13 hx
           have e132 : xq 132 = .int .i64 0 := hx 0 (by decide)
           have e133 : xq 133 = .bool true := hx 1 (by decide)
           have e134 : xq 134 = .bool true := hx 2 (by decide)
           have e135 : xq 135 = .int .i64 (k : Int) := hx 3 (by decide)
           have e136 : xq 136 = .pointer (some ⟨w10.heap.size, k * 2, none⟩) := hx 4 (by decide)
           have e137 : xq 137 = .pointer (some ⟨w10.heap.size, k * 2, none⟩) := hx 5 (by decide)
           have e138 : xq 138 = .int .i64 bl := hx 6 (by decide)
           have e139 : xq 139 = .int .i64 (k : Int) := hx 7 (by decide)
           have e140 : xq 140 = .pointer (some ⟨w9.heap.size, k * 2, none⟩) := hx 8 (by decide)
           have e141 : xq 141 = .pointer (some ⟨w9.heap.size, k * 2, none⟩) := hx 9 (by decide)
           have e142 : xq 142 = .int .i64 al := hx 10 (by decide)
           have e143 : xq 143 = .bool false := hx 11 (by decide)
           have e144 : xq 144 = .bool false := hx 12 (by decide)
           have e145 : xq 145 = .int .i64 (k : Int) := hx 13 (by decide)
           have e146 : xq 146 = .pointer (some ⟨w10.heap.size, k * 2, none⟩) := hx 14 (by decide)
           have e147 : xq 147 = .pointer (some ⟨w10.heap.size, k * 2 + 1, none⟩) := hx 15 (by decide)
           have e148 : xq 148 = .int .i64 bh := hx 16 (by decide)
           have e149 : xq 149 = .int .i64 (k : Int) := hx 17 (by decide)
           have e150 : xq 150 = .pointer (some ⟨w9.heap.size, k * 2, none⟩) := hx 18 (by decide)
           have e151 : xq 151 = .pointer (some ⟨w9.heap.size, k * 2 + 1, none⟩) := hx 19 (by decide)
           have e152 : xq 152 = .int .i64 ah := hx 20 (by decide)
           have e153 : xq 153 = .bool false := hx 21 (by decide)
           have e154 : xq 154 = .bool false := hx 22 (by decide)
           have e155 : xq 155 = .bool false := hx 23 (by decide)
           clear hx
           simp only [runOf, setSlot, HRL.out, sr, Nat.reduceAdd, Nat.reduceEqDiff, if_true, if_false]
           simp only [e132, e133, e134, e135, e136, e137, e138, e139, e140, e141, e142, e143, e144, e145, e146, e147, e148, e149, e150, e151, e152, e153, e154, e155]
           clear e132 e133 e134 e135 e136 e137 e138 e139 e140 e141 e142 e143 e144 e145 e146 e147 e148 e149 e150 e151 e152 e153 e154 e155
           refine hKc _ _ ?_
           have HU := Lib.hid hb13
           have Hg13 := Lib.hid (Hgr.out.up hb13)
           have Hcc13 := Lib.hid (Hccr.out.up hb13)
           have Hv13 := Lib.hid (Hvr.out.up hb13)
           have Ha13 := Lib.hid (Har.out.up hb13)
           have Hb13 := Lib.hid (Hbr.out.up hb13)
           have Hp13 := Lib.hid (Hpr.out.up hb13)
           have HG13 := Lib.hid (HGr.out.up hb13)
           have HH13 := Lib.hid (HHr.out.up hb13)
           have HJ13 := Lib.hid (HJr.out.up hb13)
           have HB13 : Hid (Below w.heap.size w w13) := Lib.hid (HBr.out.trans (hb13.mono hsr))
           have hs13 := HB13.out.size
           have HL13 := Lib.hid (HSr.out.trans (hb13.mono hszl))
           have hszn := HL13.out.size
           clear hb13
           obtain ⟨kcc0, kcc1, kcc2⟩ := Hcc13.out.c3
           have lt_cc : w2.heap.size + 1 < w13.heap.size := Hcc13.out.lt
           go_wp2_with fail
           clear kcc0 kcc1 kcc2 lt_cc
           go_loopw [159] (fun v159 wr => ∃ j : Nat, v159 = .int .i64 (j : Int) ∧ j ≤ la.length ∧ Below w13.heap.size w13 wr) (fun v159 _ => la.length - (intOf v159).toNat)
           case atStart => exact ⟨0, rfl, Nat.zero_le _, Below.refl _ _⟩
           case round =>
            obtain ⟨j, rfl, hjl, hl⟩ := hrel
            have HSs := Lib.hid hl
            have hszm := hl.size
            clear hl
            have Hgs := Lib.hid (Hg13.out.up HSs.out)
            have Hccs := Lib.hid (Hcc13.out.up HSs.out)
            have Hvs := Lib.hid (Hv13.out.up HSs.out)
            have Has := Lib.hid (Ha13.out.up HSs.out)
            have Hbs := Lib.hid (Hb13.out.up HSs.out)
            have Hps := Lib.hid (Hp13.out.up HSs.out)
            have HGs := Lib.hid (HG13.out.up HSs.out)
            have HHs := Lib.hid (HH13.out.up HSs.out)
            have HJs := Lib.hid (HJ13.out.up HSs.out)
            have HBs : Hid (Below w.heap.size w wr) := Lib.hid (HB13.out.trans (HSs.out.mono hs13))
            have hss := HBs.out.size
            by_cases hjt : j < la.length
            ·have hji : (j : Int) < la.length := by omega
             obtain ⟨y, hy⟩ : ∃ y, la[j]? = some y := ⟨_, List.getElem?_eq_getElem hjt⟩
             obtain ⟨gk, hgk⟩ := four_at y.g0 y.g1 y.g2 y.g3 hlt
             obtain ⟨s0, s1, se, t0, t1, te, hr1, hr2, hrr⟩ := lets_pair (n := y.sum) (g := gk) bmi.1 (HPOS.out y (List.mem_of_getElem? hy))
             have HR1 := Lib.hid hr1
             have HR2 := Lib.hid hr2
             have HRR_ := Lib.hid hrr
             have HY_ := Lib.hid hy
             have HGK := Lib.hid hgk
             clear hr1 hr2 hrr hy hgk
             obtain ⟨kg0, kg1, kg2⟩ := Hgs.out.c3
             have lt_g : w2.heap.size < wr.heap.size := Hgs.out.lt
             obtain ⟨kcc0, kcc1, kcc2⟩ := Hccs.out.c3
             have lt_cc : w2.heap.size + 1 < wr.heap.size := Hccs.out.lt
             go_wp2_with fail
             refine (Lets_at err miss full emp G H' d q' gs la j k y HY_.out hlt gk HGK.out _ (HGs.out.up zg) hgl' (HHs.out.up zg) hla' HE.out).mono ?_
             rw [HR1.out]
             rintro e w20 ⟨rfl, hb20⟩
             have Hg20 := Lib.hid (Holds.up (by have h := Hgs.out; exact zp4 : Holds _ (w2.heap.size) 24 #[.int .i64 err, .int .i64 miss, .slice G gs.length d]) hb20)
             have Hcc20 := Lib.hid (Holds.up (by have h := Hccs.out; exact zp4 : Holds _ (w2.heap.size + 1) 27 #[.int .i64 full, .int .i64 emp, .slice H' la.length q']) hb20)
             have Hv20 := Lib.hid (Holds.up (by have h := Hvs.out; exact zp4 : Holds _ (w7.heap.size) 24 #[.int .i64 er, .int .i64 mi, .slice G' gs.length d']) hb20)
             have Ha20 := Lib.hid (Holds.up (by have h := Has.out; exact zp4 : Holds _ (w9.heap.size) 76 #[.int .i64 B.l0, .int .i64 B.h0, .int .i64 B.l1, .int .i64 B.h1, .int .i64 B.l2, .int .i64 B.h2, .int .i64 B.l3, .int .i64 B.h3]) hb20)
             have Hb20 := Lib.hid (Holds.up (by have h := Hbs.out; exact zp4 : Holds _ (w10.heap.size) 76 #[.int .i64 B'.l0, .int .i64 B'.h0, .int .i64 B'.l1, .int .i64 B'.h1, .int .i64 B'.l2, .int .i64 B'.h2, .int .i64 B'.l3, .int .i64 B'.h3]) hb20)
             have Hp20 := Lib.hid (Holds.up (by have h := Hps.out; exact zp4 : Holds _ (w11.heap.size) 60 #[.int .i64 nl, .int .i64 nh]) hb20)
             have HS20 : Hid (Below wr.heap.size wr w20) := Lib.hid (Below.trans zg (hb20.mono (by first | exact Nat.le_refl _ | omega | (simp; done) | (simp; omega))))
             have HB20 : Hid (Below w.heap.size w w20) := Lib.hid (HBs.out.trans (HS20.out.mono hss))
             have hs20 := HB20.out.size
             have hst20 := HS20.out.size
             have HG20 := Lib.hid (HGs.out.up HS20.out)
             have HH20 := Lib.hid (HHs.out.up HS20.out)
             have HJ20 := Lib.hid (HJs.out.up HS20.out)
             clear hb20
             clear kg0 kg1 kg2 lt_g kcc0 kcc1 kcc2 lt_cc
             obtain ⟨kv0, kv1, kv2⟩ := Hv20.out.c3
             have lt_v : w7.heap.size < w20.heap.size := Hv20.out.lt
             obtain ⟨kcc0, kcc1, kcc2⟩ := Hcc20.out.c3
             have lt_cc : w2.heap.size + 1 < w20.heap.size := Hcc20.out.lt
             go_wp2_with fail
             refine (Lets_at er mi full emp G' H' d' q' gs la j k y HY_.out hlt gk HGK.out _ (HJ20.out.up zg) hgl' (HH20.out.up zg) hla' HE'.out).mono ?_
             rw [HR2.out]
             rintro e w21 ⟨rfl, hb21⟩
             have Hg21 := Lib.hid (Holds.up (by have h := Hg20.out; exact zp4 : Holds _ (w2.heap.size) 24 #[.int .i64 err, .int .i64 miss, .slice G gs.length d]) hb21)
             have Hcc21 := Lib.hid (Holds.up (by have h := Hcc20.out; exact zp4 : Holds _ (w2.heap.size + 1) 27 #[.int .i64 full, .int .i64 emp, .slice H' la.length q']) hb21)
             have Hv21 := Lib.hid (Holds.up (by have h := Hv20.out; exact zp4 : Holds _ (w7.heap.size) 24 #[.int .i64 er, .int .i64 mi, .slice G' gs.length d']) hb21)
             have Ha21 := Lib.hid (Holds.up (by have h := Ha20.out; exact zp4 : Holds _ (w9.heap.size) 76 #[.int .i64 B.l0, .int .i64 B.h0, .int .i64 B.l1, .int .i64 B.h1, .int .i64 B.l2, .int .i64 B.h2, .int .i64 B.l3, .int .i64 B.h3]) hb21)
             have Hb21 := Lib.hid (Holds.up (by have h := Hb20.out; exact zp4 : Holds _ (w10.heap.size) 76 #[.int .i64 B'.l0, .int .i64 B'.h0, .int .i64 B'.l1, .int .i64 B'.h1, .int .i64 B'.l2, .int .i64 B'.h2, .int .i64 B'.l3, .int .i64 B'.h3]) hb21)
             have Hp21 := Lib.hid (Holds.up (by have h := Hp20.out; exact zp4 : Holds _ (w11.heap.size) 60 #[.int .i64 nl, .int .i64 nh]) hb21)
             have Hls21 := Lib.hid (Holds.up (zp4 : Holds _ (w20.heap.size) 60 #[.int .i64 s0, .int .i64 s1]) hb21)
             have HS21 : Hid (Below w20.heap.size w20 w21) := Lib.hid (Below.trans zg (hb21.mono (by first | exact Nat.le_refl _ | omega | (simp; done) | (simp; omega))))
             have HB21 : Hid (Below w.heap.size w w21) := Lib.hid (HB20.out.trans (HS21.out.mono hs20))
             have hs21 := HB21.out.size
             have hst21 := HS21.out.size
             have HG21 := Lib.hid (HG20.out.up HS21.out)
             have HH21 := Lib.hid (HH20.out.up HS21.out)
             have HJ21 := Lib.hid (HJ20.out.up HS21.out)
             clear hb21
             clear kv0 kv1 kv2 lt_v kcc0 kcc1 kcc2 lt_cc
             obtain ⟨kls0, kls1⟩ := Hls21.out.c2
             have lt_ls : w20.heap.size < w21.heap.size := Hls21.out.lt
             rcases HRR_.out with ⟨rfl, rfl, p3, p4⟩ | ⟨rfl, rfl⟩ | ⟨rfl, rfl⟩
             all_goals
              go_wp2_with fail
              go_roundw
              case rel => exact ⟨j + 1, by go_num, by omega, HSs.out.trans ((HS20.out.mono hszm).trans ((HS21.out.mono (Nat.le_trans hszm hst20)).trans zg))⟩
              case measure => first | (simp [intOf]; done) | (simp [intOf]; omega)
            ·have hje : j = la.length := by omega
             go_wp2_with fail
             go_roundw
             case rel => exact ⟨k + 1, by go_num, by omega, HL13.out.trans (HSs.out.mono hszn)⟩
             case measure => first | (simp [intOf]; done) | (simp [intOf]; omega)
        ·as_aux_lemma =>
          have hk : (k : Int) = 4 := by omega
          rw [hk]
          clear hk hlt
          obtain ⟨kcc0, kcc1, kcc2⟩ := Hccr.out.c3
          have lt_cc : w2.heap.size + 1 < wr.heap.size := Hccr.out.lt
          go_wp2_with fail
          clear kcc0 kcc1 kcc2 lt_cc
          go_loopw [219] (fun v219 wz => ∃ i : Nat, v219 = .int .i64 (i : Int) ∧ i ≤ la.length ∧ Below wr.heap.size wr wz) (fun v219 _ => la.length - (intOf v219).toNat)
          case atStart => exact ⟨0, rfl, Nat.zero_le _, Below.refl _ _⟩
          case round =>
           obtain ⟨i, rfl, hil, hl⟩ := hrel
           have HSi := Lib.hid hl
           have hszi := hl.size
           clear hl
           have Hgi := Lib.hid (Hgr.out.up HSi.out)
           have Hcci := Lib.hid (Hccr.out.up HSi.out)
           have Hvi := Lib.hid (Hvr.out.up HSi.out)
           have Hai := Lib.hid (Har.out.up HSi.out)
           have Hbi := Lib.hid (Hbr.out.up HSi.out)
           have Hpi := Lib.hid (Hpr.out.up HSi.out)
           have HGi := Lib.hid (HGr.out.up HSi.out)
           have HHi := Lib.hid (HHr.out.up HSi.out)
           have HJi := Lib.hid (HJr.out.up HSi.out)
           have HBi := Lib.hid (HBr.out.trans (HSi.out.mono hsr))
           have hsi := HBi.out.size
           by_cases hit : i < la.length
           ·have hii : (i : Int) < la.length := by omega
            go_wp2_with fail
            go_loopw [223] (fun v223 wy => ∃ j : Nat, v223 = .int .i64 (j : Int) ∧ j ≤ i ∧ Below wr.heap.size wr wy) (fun v223 _ => i - (intOf v223).toNat)
            case atStart => exact ⟨0, rfl, Nat.zero_le _, Below.refl _ _⟩
            case round =>
             obtain ⟨j, rfl, hji, hl⟩ := hrel
             have HSj := Lib.hid hl
             have hszj := hl.size
             clear hl
             have Hgj := Lib.hid (Hgi.out.up HSj.out)
             have Hccj := Lib.hid (Hcci.out.up HSj.out)
             have Hvj := Lib.hid (Hvi.out.up HSj.out)
             have Haj := Lib.hid (Hai.out.up HSj.out)
             have Hbj := Lib.hid (Hbi.out.up HSj.out)
             have Hpj := Lib.hid (Hpi.out.up HSj.out)
             have HGj := Lib.hid (HGi.out.up HSj.out)
             have HHj := Lib.hid (HHi.out.up HSj.out)
             have HJj := Lib.hid (HJi.out.up HSj.out)
             have HBj := Lib.hid (HBi.out.trans (HSj.out.mono hsi))
             have hsj := HBj.out.size
             by_cases hjt : j < i
             ·have hjj : (j : Int) < i := by omega
              obtain ⟨xb, yb, hx1, hy1, hxy⟩ := agree_pair bmi.1 HPOS.out (i : Int) (j : Int)
              have HX1 := Lib.hid hx1
              have HY1_ := Lib.hid hy1
              have HXY := Lib.hid hxy
              have hin1 := in_pair hit (Nat.lt_trans hjt hit)
              have hin2 := in_pair (Nat.lt_trans hjt hit) hit
              have htw1 : twice [(i : Int), (j : Int)] = false := twice_pair (by omega)
              have htw2 : twice [(j : Int), (i : Int)] = false := twice_pair (by omega)
              have HI1 := Lib.hid hin1
              have HI2 := Lib.hid hin2
              have HT1 := Lib.hid htw1
              have HT2 := Lib.hid htw2
              clear hx1 hy1 hxy hin1 hin2 htw1 htw2
              obtain ⟨kg0, kg1, kg2⟩ := Hgj.out.c3
              have lt_g : w2.heap.size < wr.heap.size := Hgj.out.lt
              obtain ⟨kcc0, kcc1, kcc2⟩ := Hccj.out.c3
              have lt_cc : w2.heap.size + 1 < wr.heap.size := Hccj.out.lt
              go_wp2_with fail
              refine (Agree_in err miss full emp G H' d q' gs la (some ⟨wr.heap.size, 0, none⟩) 2 [(i : Int), (j : Int)] _ (HGj.out.up zg) hgl' (HHj.out.up zg) hla' HE.out (ints_block (Holds.new _ _ _) rfl) (by simp) HI1.out HT1.out).mono ?_
              rw [HX1.out]
              rintro e w30 ⟨rfl, hb30⟩
              have Hg30 := Lib.hid (Holds.up (by have h := Hgj.out; exact zp4 : Holds _ (w2.heap.size) 24 #[.int .i64 err, .int .i64 miss, .slice G gs.length d]) hb30)
              have Hcc30 := Lib.hid (Holds.up (by have h := Hccj.out; exact zp4 : Holds _ (w2.heap.size + 1) 27 #[.int .i64 full, .int .i64 emp, .slice H' la.length q']) hb30)
              have Hv30 := Lib.hid (Holds.up (by have h := Hvj.out; exact zp4 : Holds _ (w7.heap.size) 24 #[.int .i64 er, .int .i64 mi, .slice G' gs.length d']) hb30)
              have Ha30 := Lib.hid (Holds.up (by have h := Haj.out; exact zp4 : Holds _ (w9.heap.size) 76 #[.int .i64 B.l0, .int .i64 B.h0, .int .i64 B.l1, .int .i64 B.h1, .int .i64 B.l2, .int .i64 B.h2, .int .i64 B.l3, .int .i64 B.h3]) hb30)
              have Hb30 := Lib.hid (Holds.up (by have h := Hbj.out; exact zp4 : Holds _ (w10.heap.size) 76 #[.int .i64 B'.l0, .int .i64 B'.h0, .int .i64 B'.l1, .int .i64 B'.h1, .int .i64 B'.l2, .int .i64 B'.h2, .int .i64 B'.l3, .int .i64 B'.h3]) hb30)
              have Hp30 := Lib.hid (Holds.up (by have h := Hpj.out; exact zp4 : Holds _ (w11.heap.size) 60 #[.int .i64 nl, .int .i64 nh]) hb30)
              have HS30 : Hid (Below wr.heap.size wr w30) := Lib.hid (Below.trans zg (hb30.mono (by first | exact Nat.le_refl _ | omega | (simp; done) | (simp; omega))))
              have HB30 : Hid (Below w.heap.size w w30) := Lib.hid (HBj.out.trans (HS30.out.mono hsj))
              have hs30 := HB30.out.size
              have hst30 := HS30.out.size
              have HG30 := Lib.hid (HGj.out.up HS30.out)
              have HH30 := Lib.hid (HHj.out.up HS30.out)
              have HJ30 := Lib.hid (HJj.out.up HS30.out)
              clear hb30
              clear kg0 kg1 kg2 lt_g kcc0 kcc1 kcc2 lt_cc
              obtain ⟨kv0, kv1, kv2⟩ := Hv30.out.c3
              have lt_v : w7.heap.size < w30.heap.size := Hv30.out.lt
              obtain ⟨kcc0, kcc1, kcc2⟩ := Hcc30.out.c3
              have lt_cc : w2.heap.size + 1 < w30.heap.size := Hcc30.out.lt
              go_wp2_with fail
              refine (Agree_in er mi full emp G' H' d' q' gs la (some ⟨w30.heap.size, 0, none⟩) 2 [(j : Int), (i : Int)] _ (HJ30.out.up zg) hgl' (HH30.out.up zg) hla' HE'.out (ints_block (Holds.new _ _ _) rfl) (by simp) HI2.out HT2.out).mono ?_
              rw [HY1_.out]
              rintro e w31 ⟨rfl, hb31⟩
              have Hg31 := Lib.hid (Holds.up (by have h := Hg30.out; exact zp4 : Holds _ (w2.heap.size) 24 #[.int .i64 err, .int .i64 miss, .slice G gs.length d]) hb31)
              have Hcc31 := Lib.hid (Holds.up (by have h := Hcc30.out; exact zp4 : Holds _ (w2.heap.size + 1) 27 #[.int .i64 full, .int .i64 emp, .slice H' la.length q']) hb31)
              have Hv31 := Lib.hid (Holds.up (by have h := Hv30.out; exact zp4 : Holds _ (w7.heap.size) 24 #[.int .i64 er, .int .i64 mi, .slice G' gs.length d']) hb31)
              have Ha31 := Lib.hid (Holds.up (by have h := Ha30.out; exact zp4 : Holds _ (w9.heap.size) 76 #[.int .i64 B.l0, .int .i64 B.h0, .int .i64 B.l1, .int .i64 B.h1, .int .i64 B.l2, .int .i64 B.h2, .int .i64 B.l3, .int .i64 B.h3]) hb31)
              have Hb31 := Lib.hid (Holds.up (by have h := Hb30.out; exact zp4 : Holds _ (w10.heap.size) 76 #[.int .i64 B'.l0, .int .i64 B'.h0, .int .i64 B'.l1, .int .i64 B'.h1, .int .i64 B'.l2, .int .i64 B'.h2, .int .i64 B'.l3, .int .i64 B'.h3]) hb31)
              have Hp31 := Lib.hid (Holds.up (by have h := Hp30.out; exact zp4 : Holds _ (w11.heap.size) 60 #[.int .i64 nl, .int .i64 nh]) hb31)
              have HS31 : Hid (Below w30.heap.size w30 w31) := Lib.hid (Below.trans zg (hb31.mono (by first | exact Nat.le_refl _ | omega | (simp; done) | (simp; omega))))
              have HB31 : Hid (Below w.heap.size w w31) := Lib.hid (HB30.out.trans (HS31.out.mono hs30))
              have hs31 := HB31.out.size
              have hst31 := HS31.out.size
              have HG31 := Lib.hid (HG30.out.up HS31.out)
              have HH31 := Lib.hid (HH30.out.up HS31.out)
              have HJ31 := Lib.hid (HJ30.out.up HS31.out)
              clear hb31
              clear kv0 kv1 kv2 lt_v kcc0 kcc1 kcc2 lt_cc
              rcases HXY.out with ⟨rfl, rfl⟩ | ⟨rfl, rfl⟩ | ⟨rfl, rfl⟩
              all_goals
               go_wp2_with fail
               go_roundw
               case rel => exact ⟨j + 1, by go_num, by omega, HSj.out.trans ((HS30.out.mono hszj).trans (HS31.out.mono (Nat.le_trans hszj hst30)))⟩
               case measure => first | (simp [intOf]; done) | (simp [intOf]; omega)
             ·go_wp2_with fail
              go_roundw
              case rel => exact ⟨i + 1, by go_num, by omega, HSi.out.trans (HSj.out.mono hszi)⟩
              case measure => first | (simp [intOf]; done) | (simp [intOf]; omega)
           ·go_wp2_with fail
            refine (awake_any _).mono ?_
            rintro e w40 ⟨rfl, hb40⟩
            go_wp2_with fail
            go_ret
            exact ⟨rfl, HBi.out.trans (hb40.mono hsi)⟩
     | true =>
      as_aux_lemma =>
       have HEM := Lib.hid hem
       clear hem
       obtain ⟨nl, hnl⟩ : ∃ z, z = max 0 (full - emp - 2 * err) := ⟨_, rfl⟩
       obtain ⟨nh, hnh⟩ : ∃ z, z = max 0 (full - emp + 2 * err) := ⟨_, rfl⟩
       obtain ⟨ol, hol⟩ : ∃ z, z = max 0 (full - emp - 2 * er) := ⟨_, rfl⟩
       obtain ⟨oh, hoh⟩ : ∃ z, z = max 0 (full - emp + 2 * er) := ⟨_, rfl⟩
       have q1 : ol ≤ nl := by omega
       have q2 : nh ≤ oh := by omega
       have HN1 := Lib.hid (And.intro hnl hnh)
       have HN2 := Lib.hid (And.intro hol hoh)
       clear hnl hnh hol hoh
       obtain ⟨kg0, kg1, kg2⟩ := Hg8.out.c3
       have lt_g : w2.heap.size < w8.heap.size := Hg8.out.lt
       obtain ⟨kcc0, kcc1, kcc2⟩ := Hcc8.out.c3
       have lt_cc : w2.heap.size + 1 < w8.heap.size := Hcc8.out.lt
       go_wp2_with fail
       refine (Bounds_clash err miss full emp G H' d q' gs la _ (HG8.out.up zg) hgl' (HH8.out.up zg) hla' HE.out HEM.out).mono ?_
       rintro e w9 ⟨rfl, hb9⟩
       have Hg9 := Lib.hid (Holds.up (by have h := Hg8.out; exact zp4 : Holds _ (w2.heap.size) 24 #[.int .i64 err, .int .i64 miss, .slice G gs.length d]) hb9)
       have Hcc9 := Lib.hid (Holds.up (by have h := Hcc8.out; exact zp4 : Holds _ (w2.heap.size + 1) 27 #[.int .i64 full, .int .i64 emp, .slice H' la.length q']) hb9)
       have Hv9 := Lib.hid (Holds.up (by have h := Hv8.out; exact zp4 : Holds _ (w7.heap.size) 24 #[.int .i64 er, .int .i64 mi, .slice G' gs.length d']) hb9)
       have HS9 : Hid (Below w8.heap.size w8 w9) := Lib.hid (Below.trans zg (hb9.mono (by first | exact Nat.le_refl _ | omega | (simp; done) | (simp; omega))))
       have HB9 : Hid (Below w.heap.size w w9) := Lib.hid (HB8.out.trans (HS9.out.mono hs8))
       have hs9 := HB9.out.size
       have hst9 := HS9.out.size
       have HG9 := Lib.hid (HG8.out.up HS9.out)
       have HH9 := Lib.hid (HH8.out.up HS9.out)
       have HJ9 := Lib.hid (HJ8.out.up HS9.out)
       clear hb9
       clear kg0 kg1 kg2 lt_g kcc0 kcc1 kcc2 lt_cc
       obtain ⟨kv0, kv1, kv2⟩ := Hv9.out.c3
       have lt_v : w7.heap.size < w9.heap.size := Hv9.out.lt
       obtain ⟨kcc0, kcc1, kcc2⟩ := Hcc9.out.c3
       have lt_cc : w2.heap.size + 1 < w9.heap.size := Hcc9.out.lt
       go_wp2_with fail
       refine (Bounds_some er mi full emp G' H' d' q' gs la _ (HJ9.out.up zg) hgl' (HH9.out.up zg) hla' HE'.out).mono ?_
       rintro e w10 ⟨c0, c1, c2, c3, c4, c5, c6, c7, ee, rfl, hb10⟩
       have Hg10 := Lib.hid (Holds.up (by have h := Hg9.out; exact zp4 : Holds _ (w2.heap.size) 24 #[.int .i64 err, .int .i64 miss, .slice G gs.length d]) hb10)
       have Hcc10 := Lib.hid (Holds.up (by have h := Hcc9.out; exact zp4 : Holds _ (w2.heap.size + 1) 27 #[.int .i64 full, .int .i64 emp, .slice H' la.length q']) hb10)
       have Hv10 := Lib.hid (Holds.up (by have h := Hv9.out; exact zp4 : Holds _ (w7.heap.size) 24 #[.int .i64 er, .int .i64 mi, .slice G' gs.length d']) hb10)
       have HS10 : Hid (Below w9.heap.size w9 w10) := Lib.hid (Below.trans zg (hb10.mono (by first | exact Nat.le_refl _ | omega | (simp; done) | (simp; omega))))
       have HB10 : Hid (Below w.heap.size w w10) := Lib.hid (HB9.out.trans (HS10.out.mono hs9))
       have hs10 := HB10.out.size
       have hst10 := HS10.out.size
       have HG10 := Lib.hid (HG9.out.up HS10.out)
       have HH10 := Lib.hid (HH9.out.up HS10.out)
       have HJ10 := Lib.hid (HJ9.out.up HS10.out)
       clear hb10
       clear kv0 kv1 kv2 lt_v kcc0 kcc1 kcc2 lt_cc
       obtain ⟨kg0, kg1, kg2⟩ := Hg10.out.c3
       have lt_g : w2.heap.size < w10.heap.size := Hg10.out.lt
       obtain ⟨kcc0, kcc1, kcc2⟩ := Hcc10.out.c3
       have lt_cc : w2.heap.size + 1 < w10.heap.size := Hcc10.out.lt
       go_wp2_with fail
       refine (Net_ok err miss full emp G H' d q' gs la _ (HG10.out.up zg) hgl' (HH10.out.up zg) hla' HE.out).mono ?_
       rw [← HN1.out.1, ← HN1.out.2]
       rintro e w11 ⟨rfl, hb11⟩
       have Hg11 := Lib.hid (Holds.up (by have h := Hg10.out; exact zp4 : Holds _ (w2.heap.size) 24 #[.int .i64 err, .int .i64 miss, .slice G gs.length d]) hb11)
       have Hcc11 := Lib.hid (Holds.up (by have h := Hcc10.out; exact zp4 : Holds _ (w2.heap.size + 1) 27 #[.int .i64 full, .int .i64 emp, .slice H' la.length q']) hb11)
       have Hv11 := Lib.hid (Holds.up (by have h := Hv10.out; exact zp4 : Holds _ (w7.heap.size) 24 #[.int .i64 er, .int .i64 mi, .slice G' gs.length d']) hb11)
       have HS11 : Hid (Below w10.heap.size w10 w11) := Lib.hid (Below.trans zg (hb11.mono (by first | exact Nat.le_refl _ | omega | (simp; done) | (simp; omega))))
       have HB11 : Hid (Below w.heap.size w w11) := Lib.hid (HB10.out.trans (HS11.out.mono hs10))
       have hs11 := HB11.out.size
       have hst11 := HS11.out.size
       have HG11 := Lib.hid (HG10.out.up HS11.out)
       have HH11 := Lib.hid (HH10.out.up HS11.out)
       have HJ11 := Lib.hid (HJ10.out.up HS11.out)
       clear hb11
       clear kg0 kg1 kg2 lt_g kcc0 kcc1 kcc2 lt_cc
       obtain ⟨kv0, kv1, kv2⟩ := Hv11.out.c3
       have lt_v : w7.heap.size < w11.heap.size := Hv11.out.lt
       obtain ⟨kcc0, kcc1, kcc2⟩ := Hcc11.out.c3
       have lt_cc : w2.heap.size + 1 < w11.heap.size := Hcc11.out.lt
       go_wp2_with fail
       refine (Net_ok er mi full emp G' H' d' q' gs la _ (HJ11.out.up zg) hgl' (HH11.out.up zg) hla' HE'.out).mono ?_
       rw [← HN2.out.1, ← HN2.out.2]
       rintro e w12 ⟨rfl, hb12⟩
       have Hg12 := Lib.hid (Holds.up (by have h := Hg11.out; exact zp4 : Holds _ (w2.heap.size) 24 #[.int .i64 err, .int .i64 miss, .slice G gs.length d]) hb12)
       have Hcc12 := Lib.hid (Holds.up (by have h := Hcc11.out; exact zp4 : Holds _ (w2.heap.size + 1) 27 #[.int .i64 full, .int .i64 emp, .slice H' la.length q']) hb12)
       have Hv12 := Lib.hid (Holds.up (by have h := Hv11.out; exact zp4 : Holds _ (w7.heap.size) 24 #[.int .i64 er, .int .i64 mi, .slice G' gs.length d']) hb12)
       have Hp12 := Lib.hid (Holds.up (zp4 : Holds _ (w11.heap.size) 60 #[.int .i64 nl, .int .i64 nh]) hb12)
       have HS12 : Hid (Below w11.heap.size w11 w12) := Lib.hid (Below.trans zg (hb12.mono (by first | exact Nat.le_refl _ | omega | (simp; done) | (simp; omega))))
       have HB12 : Hid (Below w.heap.size w w12) := Lib.hid (HB11.out.trans (HS12.out.mono hs11))
       have hs12 := HB12.out.size
       have hst12 := HS12.out.size
       have HG12 := Lib.hid (HG11.out.up HS12.out)
       have HH12 := Lib.hid (HH11.out.up HS12.out)
       have HJ12 := Lib.hid (HJ11.out.up HS12.out)
       clear hb12
       clear kv0 kv1 kv2 lt_v kcc0 kcc1 kcc2 lt_cc
       obtain ⟨kp0, kp1⟩ := Hp12.out.c2
       have lt_p : w11.heap.size < w12.heap.size := Hp12.out.lt
       go_wp2_with fail
       go_loopw [129] (fun v129 wr => ∃ k : Nat, v129 = .int .i64 (k : Int) ∧ k ≤ 4 ∧ Below w12.heap.size w12 wr) (fun v129 _ => 4 - (intOf v129).toNat)
       case atStart => exact ⟨0, rfl, by decide, zg⟩
       case round =>
        obtain ⟨k, rfl, hk4, hl⟩ := hrel
        have HSr := Lib.hid hl
        have hszl := hl.size
        clear hl
        have Hgr := Lib.hid (Hg12.out.up HSr.out)
        have Hccr := Lib.hid (Hcc12.out.up HSr.out)
        have Hvr := Lib.hid (Hv12.out.up HSr.out)
        have Hpr := Lib.hid (Hp12.out.up HSr.out)
        have HGr := Lib.hid (HG12.out.up HSr.out)
        have HHr := Lib.hid (HH12.out.up HSr.out)
        have HJr := Lib.hid (HJ12.out.up HSr.out)
        have HBr : Hid (Below w.heap.size w wr) := Lib.hid (HB12.out.trans (HSr.out.mono hs12))
        have hsr := HBr.out.size
        by_cases hlt : k < 4
        ·as_aux_lemma =>
          have hkk : (k : Int) < 4 := by omega
          go_wp2_with fail
          rename_i Kc hKc
          have HRL := Lib.hid (show List.range' 132 24 = [132, 133, 134, 135, 136, 137, 138, 139, 140, 141, 142, 143, 144, 145, 146, 147, 148, 149, 150, 151, 152, 153, 154, 155] from rfl)
          refine wp_region_partsR 132 24 (by kernel_rfl) [some 132, some 133, some 134, some 135, some 136, some 137, some 138, some 139, some 140, some 141, some 142, some 143, some 144, some 145, some 146, some 147, some 148, some 149, some 150, some 151, some 152, some 153, some 154, some 155] (fun jq xq w' => match jq with
           | 0 => xq 132 = .int .i64 7
           | 1 => xq 133 = .bool false
           | 2 => xq 134 = .bool false
           | 3 => True
           | 4 => True
           | 5 => True
           | 6 => True
           | 7 => True
           | 8 => True
           | 9 => True
           | 10 => True
           | 11 => True
           | 12 => xq 144 = undef
           | 13 => True
           | 14 => True
           | 15 => True
           | 16 => True
           | 17 => True
           | 18 => True
           | 19 => True
           | 20 => True
           | 21 => True
           | 22 => xq 154 = undef
           | 23 => xq 155 = .bool false
           | _ => True) [[132], [133], [134], [], [], [], [], [], [], [], [], [], [144], [], [], [], [], [], [], [], [], [], [154], [155]] [] (fun w' => Below wr.heap.size wr w') (by kernel_rfl) (by kernel_rfl) (by rfl) ?_ ?_ (fun w' w'' hb h => h.trans (hb.mono h.size)) (Below.refl _ _) ?_ ?_ ?_
          ·intro jq xq xq' wqq h hv
           match jq, h, hv with
           | 0, h, hv => show xq' 132 = .int .i64 7; rw [← h 132 (by decide)]; exact hv
           | 1, h, hv => show xq' 133 = .bool false; rw [← h 133 (by decide)]; exact hv
           | 2, h, hv => show xq' 134 = .bool false; rw [← h 134 (by decide)]; exact hv
           | 3, h, hv => exact hv
           | 4, h, hv => exact hv
           | 5, h, hv => exact hv
           | 6, h, hv => exact hv
           | 7, h, hv => exact hv
           | 8, h, hv => exact hv
           | 9, h, hv => exact hv
           | 10, h, hv => exact hv
           | 11, h, hv => exact hv
           | 12, h, hv => show xq' 144 = undef; rw [← h 144 (by decide)]; exact hv
           | 13, h, hv => exact hv
           | 14, h, hv => exact hv
           | 15, h, hv => exact hv
           | 16, h, hv => exact hv
           | 17, h, hv => exact hv
           | 18, h, hv => exact hv
           | 19, h, hv => exact hv
           | 20, h, hv => exact hv
           | 21, h, hv => exact hv
           | 22, h, hv => show xq' 154 = undef; rw [← h 154 (by decide)]; exact hv
           | 23, h, hv => show xq' 155 = .bool false; rw [← h 155 (by decide)]; exact hv
           | _ + 24, _, _ => trivial
          ·intro jq xq wqq w' hb' hv
           match jq, hv with
           | 0, hv => exact hv
           | 1, hv => exact hv
           | 2, hv => exact hv
           | 3, hv => exact hv
           | 4, hv => exact hv
           | 5, hv => exact hv
           | 6, hv => exact hv
           | 7, hv => exact hv
           | 8, hv => exact hv
           | 9, hv => exact hv
           | 10, hv => exact hv
           | 11, hv => exact hv
           | 12, hv => exact hv
           | 13, hv => exact hv
           | 14, hv => exact hv
           | 15, hv => exact hv
           | 16, hv => exact hv
           | 17, hv => exact hv
           | 18, hv => exact hv
           | 19, hv => exact hv
           | 20, hv => exact hv
           | 21, hv => exact hv
           | 22, hv => exact hv
           | 23, hv => exact hv
           | _ + 24, _ => trivial
          ·intro jq hj
           match jq, hj with
           | 0, hj => exact absurd hj (by decide)
           | 1, hj => exact absurd hj (by decide)
           | 2, hj => exact absurd hj (by decide)
           | 3, hj => exact absurd hj (by decide)
           | 4, hj => exact absurd hj (by decide)
           | 5, hj => exact absurd hj (by decide)
           | 6, hj => exact absurd hj (by decide)
           | 7, hj => exact absurd hj (by decide)
           | 8, hj => exact absurd hj (by decide)
           | 9, hj => exact absurd hj (by decide)
           | 10, hj => exact absurd hj (by decide)
           | 11, hj => exact absurd hj (by decide)
           | 12, hj => exact absurd hj (by decide)
           | 13, hj => exact absurd hj (by decide)
           | 14, hj => exact absurd hj (by decide)
           | 15, hj => exact absurd hj (by decide)
           | 16, hj => exact absurd hj (by decide)
           | 17, hj => exact absurd hj (by decide)
           | 18, hj => exact absurd hj (by decide)
           | 19, hj => exact absurd hj (by decide)
           | 20, hj => exact absurd hj (by decide)
           | 21, hj => exact absurd hj (by decide)
           | 22, hj => exact absurd hj (by decide)
           | 23, hj => exact absurd hj (by decide)
           | _ + 24, _ => trivial
          ·refine ⟨?_, ?_, ?_, ?_, ?_, ?_, ?_, ?_, ?_, ?_, ?_, ?_, ?_, ?_, ?_, ?_, ?_, ?_, ?_, ?_, ?_, ?_, ?_, ?_, trivial⟩
           ·intro xq w13 hb13 hx K hK0
            have hK := fun v w' hb => hK0 v w' (.inl hb)
            clear hx hKc hK0
            simp only [runOf, setSlot, HRL.out, sr, Nat.reduceAdd, Nat.reduceEqDiff, if_true, if_false] at hK ⊢
            go_wp2_with (fail)
            exact hK _ _ (Below.refl _ _) rfl
           ·intro xq w13 hb13 hx K hK0
            have hK := fun v w' hb => hK0 v w' (.inl hb)
            have e132 : xq 132 = .int .i64 7 := hx 0 (by rfl) (by rfl)
            clear hx hKc hK0
            simp only [runOf, setSlot, HRL.out, sr, Nat.reduceAdd, Nat.reduceEqDiff, if_true, if_false] at hK ⊢
            simp only [e132] at hK ⊢
            clear e132
            go_wp2_with (fail)
            exact hK _ _ (Below.refl _ _) rfl
           ·intro xq w13 hb13 hx K hK0
            have hK := fun v w' hb => hK0 v w' (.inl hb)
            have e133 : xq 133 = .bool false := hx 1 (by rfl) (by rfl)
            clear hx hKc hK0
            simp only [runOf, setSlot, HRL.out, sr, Nat.reduceAdd, Nat.reduceEqDiff, if_true, if_false] at hK ⊢
            simp only [e133] at hK ⊢
            clear e133
            go_wp2_with (fail)
            exact hK _ _ (Below.refl _ _) rfl
           ·intro xq w13 hb13 hx K hK0
            have hK := fun v w' hb => hK0 v w' (.inl hb)
            have e134 : xq 134 = .bool false := hx 2 (by rfl) (by rfl)
            clear hx hKc hK0
            simp only [runOf, setSlot, HRL.out, sr, Nat.reduceAdd, Nat.reduceEqDiff, if_true, if_false] at hK ⊢
            simp only [e134] at hK ⊢
            clear e134
            go_wp2_with (fail)
            exact hK _ _ (Below.refl _ _) trivial
           ·intro xq w13 hb13 hx K hK0
            have hK := fun v w' hb => hK0 v w' (.inl hb)
            have e134 : xq 134 = .bool false := hx 2 (by rfl) (by rfl)
            clear hx hKc hK0
            simp only [runOf, setSlot, HRL.out, sr, Nat.reduceAdd, Nat.reduceEqDiff, if_true, if_false] at hK ⊢
            simp only [e134] at hK ⊢
            clear e134
            go_wp2_with (fail)
            exact hK _ _ (Below.refl _ _) trivial
           ·intro xq w13 hb13 hx K hK0
            have hK := fun v w' hb => hK0 v w' (.inl hb)
            have e134 : xq 134 = .bool false := hx 2 (by rfl) (by rfl)
            clear hx hKc hK0
            simp only [runOf, setSlot, HRL.out, sr, Nat.reduceAdd, Nat.reduceEqDiff, if_true, if_false] at hK ⊢
            simp only [e134] at hK ⊢
            clear e134
            go_wp2_with (fail)
            exact hK _ _ (Below.refl _ _) trivial
           ·intro xq w13 hb13 hx K hK0
            have hK := fun v w' hb => hK0 v w' (.inl hb)
            have e134 : xq 134 = .bool false := hx 2 (by rfl) (by rfl)
            clear hx hKc hK0
            simp only [runOf, setSlot, HRL.out, sr, Nat.reduceAdd, Nat.reduceEqDiff, if_true, if_false] at hK ⊢
            simp only [e134] at hK ⊢
            clear e134
            go_wp2_with (fail)
            exact hK _ _ (Below.refl _ _) trivial
           ·intro xq w13 hb13 hx K hK0
            have hK := fun v w' hb => hK0 v w' (.inl hb)
            have e134 : xq 134 = .bool false := hx 2 (by rfl) (by rfl)
            clear hx hKc hK0
            simp only [runOf, setSlot, HRL.out, sr, Nat.reduceAdd, Nat.reduceEqDiff, if_true, if_false] at hK ⊢
            simp only [e134] at hK ⊢
            clear e134
            go_wp2_with (fail)
            exact hK _ _ (Below.refl _ _) trivial
           ·intro xq w13 hb13 hx K hK0
            have hK := fun v w' hb => hK0 v w' (.inl hb)
            have e134 : xq 134 = .bool false := hx 2 (by rfl) (by rfl)
            clear hx hKc hK0
            simp only [runOf, setSlot, HRL.out, sr, Nat.reduceAdd, Nat.reduceEqDiff, if_true, if_false] at hK ⊢
            simp only [e134] at hK ⊢
            clear e134
            go_wp2_with (fail)
            exact hK _ _ (Below.refl _ _) trivial
           ·intro xq w13 hb13 hx K hK0
            have hK := fun v w' hb => hK0 v w' (.inl hb)
            have e134 : xq 134 = .bool false := hx 2 (by rfl) (by rfl)
            clear hx hKc hK0
            simp only [runOf, setSlot, HRL.out, sr, Nat.reduceAdd, Nat.reduceEqDiff, if_true, if_false] at hK ⊢
            simp only [e134] at hK ⊢
            clear e134
            go_wp2_with (fail)
            exact hK _ _ (Below.refl _ _) trivial
           ·intro xq w13 hb13 hx K hK0
            have hK := fun v w' hb => hK0 v w' (.inl hb)
            have e134 : xq 134 = .bool false := hx 2 (by rfl) (by rfl)
            clear hx hKc hK0
            simp only [runOf, setSlot, HRL.out, sr, Nat.reduceAdd, Nat.reduceEqDiff, if_true, if_false] at hK ⊢
            simp only [e134] at hK ⊢
            clear e134
            go_wp2_with (fail)
            exact hK _ _ (Below.refl _ _) trivial
           ·intro xq w13 hb13 hx K hK0
            have hK := fun v w' hb => hK0 v w' (.inl hb)
            have e134 : xq 134 = .bool false := hx 2 (by rfl) (by rfl)
            clear hx hKc hK0
            simp only [runOf, setSlot, HRL.out, sr, Nat.reduceAdd, Nat.reduceEqDiff, if_true, if_false] at hK ⊢
            simp only [e134] at hK ⊢
            clear e134
            go_wp2_with (fail)
            exact hK _ _ (Below.refl _ _) trivial
           ·intro xq w13 hb13 hx K hK0
            have hK := fun v w' hb => hK0 v w' (.inl hb)
            have e134 : xq 134 = .bool false := hx 2 (by rfl) (by rfl)
            clear hx hKc hK0
            simp only [runOf, setSlot, HRL.out, sr, Nat.reduceAdd, Nat.reduceEqDiff, if_true, if_false] at hK ⊢
            simp only [e134] at hK ⊢
            clear e134
            go_wp2_with (fail)
            exact hK _ _ (Below.refl _ _) rfl
           ·intro xq w13 hb13 hx K hK0
            have hK := fun v w' hb => hK0 v w' (.inl hb)
            have e144 : xq 144 = undef := hx 12 (by rfl) (by rfl)
            clear hx hKc hK0
            simp only [runOf, setSlot, HRL.out, sr, Nat.reduceAdd, Nat.reduceEqDiff, if_true, if_false] at hK ⊢
            simp only [e144] at hK ⊢
            clear e144
            go_wp2_with (fail)
            exact hK _ _ (Below.refl _ _) trivial
           ·intro xq w13 hb13 hx K hK0
            have hK := fun v w' hb => hK0 v w' (.inl hb)
            have e144 : xq 144 = undef := hx 12 (by rfl) (by rfl)
            clear hx hKc hK0
            simp only [runOf, setSlot, HRL.out, sr, Nat.reduceAdd, Nat.reduceEqDiff, if_true, if_false] at hK ⊢
            simp only [e144] at hK ⊢
            clear e144
            go_wp2_with (fail)
            exact hK _ _ (Below.refl _ _) trivial
           ·intro xq w13 hb13 hx K hK0
            have hK := fun v w' hb => hK0 v w' (.inl hb)
            have e144 : xq 144 = undef := hx 12 (by rfl) (by rfl)
            clear hx hKc hK0
            simp only [runOf, setSlot, HRL.out, sr, Nat.reduceAdd, Nat.reduceEqDiff, if_true, if_false] at hK ⊢
            simp only [e144] at hK ⊢
            clear e144
            go_wp2_with (fail)
            exact hK _ _ (Below.refl _ _) trivial
           ·intro xq w13 hb13 hx K hK0
            have hK := fun v w' hb => hK0 v w' (.inl hb)
            have e144 : xq 144 = undef := hx 12 (by rfl) (by rfl)
            clear hx hKc hK0
            simp only [runOf, setSlot, HRL.out, sr, Nat.reduceAdd, Nat.reduceEqDiff, if_true, if_false] at hK ⊢
            simp only [e144] at hK ⊢
            clear e144
            go_wp2_with (fail)
            exact hK _ _ (Below.refl _ _) trivial
           ·intro xq w13 hb13 hx K hK0
            have hK := fun v w' hb => hK0 v w' (.inl hb)
            have e144 : xq 144 = undef := hx 12 (by rfl) (by rfl)
            clear hx hKc hK0
            simp only [runOf, setSlot, HRL.out, sr, Nat.reduceAdd, Nat.reduceEqDiff, if_true, if_false] at hK ⊢
            simp only [e144] at hK ⊢
            clear e144
            go_wp2_with (fail)
            exact hK _ _ (Below.refl _ _) trivial
           ·intro xq w13 hb13 hx K hK0
            have hK := fun v w' hb => hK0 v w' (.inl hb)
            have e144 : xq 144 = undef := hx 12 (by rfl) (by rfl)
            clear hx hKc hK0
            simp only [runOf, setSlot, HRL.out, sr, Nat.reduceAdd, Nat.reduceEqDiff, if_true, if_false] at hK ⊢
            simp only [e144] at hK ⊢
            clear e144
            go_wp2_with (fail)
            exact hK _ _ (Below.refl _ _) trivial
           ·intro xq w13 hb13 hx K hK0
            have hK := fun v w' hb => hK0 v w' (.inl hb)
            have e144 : xq 144 = undef := hx 12 (by rfl) (by rfl)
            clear hx hKc hK0
            simp only [runOf, setSlot, HRL.out, sr, Nat.reduceAdd, Nat.reduceEqDiff, if_true, if_false] at hK ⊢
            simp only [e144] at hK ⊢
            clear e144
            go_wp2_with (fail)
            exact hK _ _ (Below.refl _ _) trivial
           ·intro xq w13 hb13 hx K hK0
            have hK := fun v w' hb => hK0 v w' (.inl hb)
            have e144 : xq 144 = undef := hx 12 (by rfl) (by rfl)
            clear hx hKc hK0
            simp only [runOf, setSlot, HRL.out, sr, Nat.reduceAdd, Nat.reduceEqDiff, if_true, if_false] at hK ⊢
            simp only [e144] at hK ⊢
            clear e144
            go_wp2_with (fail)
            exact hK _ _ (Below.refl _ _) trivial
           ·intro xq w13 hb13 hx K hK0
            have hK := fun v w' hb => hK0 v w' (.inl hb)
            have e144 : xq 144 = undef := hx 12 (by rfl) (by rfl)
            clear hx hKc hK0
            simp only [runOf, setSlot, HRL.out, sr, Nat.reduceAdd, Nat.reduceEqDiff, if_true, if_false] at hK ⊢
            simp only [e144] at hK ⊢
            clear e144
            go_wp2_with (fail)
            exact hK _ _ (Below.refl _ _) trivial
           ·intro xq w13 hb13 hx K hK0
            have hK := fun v w' hb => hK0 v w' (.inl hb)
            have e134 : xq 134 = .bool false := hx 2 (by rfl) (by rfl)
            have e144 : xq 144 = undef := hx 12 (by rfl) (by rfl)
            clear hx hKc hK0
            simp only [runOf, setSlot, HRL.out, sr, Nat.reduceAdd, Nat.reduceEqDiff, if_true, if_false] at hK ⊢
            simp only [e134, e144] at hK ⊢
            clear e134 e144
            go_wp2_with (fail)
            exact hK _ _ (Below.refl _ _) rfl
           ·intro xq w13 hb13 hx K hK0
            have hK := fun v w' hb => hK0 v w' (.inl hb)
            have e134 : xq 134 = .bool false := hx 2 (by rfl) (by rfl)
            have e154 : xq 154 = undef := hx 22 (by rfl) (by rfl)
            clear hx hKc hK0
            simp only [runOf, setSlot, HRL.out, sr, Nat.reduceAdd, Nat.reduceEqDiff, if_true, if_false] at hK ⊢
            simp only [e134, e154] at hK ⊢
            clear e134 e154
            go_wp2_with (fail)
            exact hK _ _ (Below.refl _ _) rfl
          ·intro xq w13 hb13 hx
           have e132 : xq 132 = .int .i64 7 := hx 0 (by decide)
           have e133 : xq 133 = .bool false := hx 1 (by decide)
           have e134 : xq 134 = .bool false := hx 2 (by decide)
           have e144 : xq 144 = undef := hx 12 (by decide)
           have e154 : xq 154 = undef := hx 22 (by decide)
           have e155 : xq 155 = .bool false := hx 23 (by decide)
           clear hx
           simp only [runOf, setSlot, HRL.out, sr, Nat.reduceAdd, Nat.reduceEqDiff, if_true, if_false]
           simp only [e132, e133, e134, e144, e154, e155]
           clear e132 e133 e134 e144 e154 e155
           refine hKc _ _ ?_
           have HU := Lib.hid hb13
           have Hg13 := Lib.hid (Hgr.out.up hb13)
           have Hcc13 := Lib.hid (Hccr.out.up hb13)
           have Hv13 := Lib.hid (Hvr.out.up hb13)
           have Hp13 := Lib.hid (Hpr.out.up hb13)
           have HG13 := Lib.hid (HGr.out.up hb13)
           have HH13 := Lib.hid (HHr.out.up hb13)
           have HJ13 := Lib.hid (HJr.out.up hb13)
           have HB13 : Hid (Below w.heap.size w w13) := Lib.hid (HBr.out.trans (hb13.mono hsr))
           have hs13 := HB13.out.size
           have HL13 := Lib.hid (HSr.out.trans (hb13.mono hszl))
           have hszn := HL13.out.size
           clear hb13
           obtain ⟨kcc0, kcc1, kcc2⟩ := Hcc13.out.c3
           have lt_cc : w2.heap.size + 1 < w13.heap.size := Hcc13.out.lt
           go_wp2_with fail
           clear kcc0 kcc1 kcc2 lt_cc
           go_loopw [159] (fun v159 wr => ∃ j : Nat, v159 = .int .i64 (j : Int) ∧ j ≤ la.length ∧ Below w13.heap.size w13 wr) (fun v159 _ => la.length - (intOf v159).toNat)
           case atStart => exact ⟨0, rfl, Nat.zero_le _, Below.refl _ _⟩
           case round =>
            obtain ⟨j, rfl, hjl, hl⟩ := hrel
            have HSs := Lib.hid hl
            have hszm := hl.size
            clear hl
            have Hgs := Lib.hid (Hg13.out.up HSs.out)
            have Hccs := Lib.hid (Hcc13.out.up HSs.out)
            have Hvs := Lib.hid (Hv13.out.up HSs.out)
            have Hps := Lib.hid (Hp13.out.up HSs.out)
            have HGs := Lib.hid (HG13.out.up HSs.out)
            have HHs := Lib.hid (HH13.out.up HSs.out)
            have HJs := Lib.hid (HJ13.out.up HSs.out)
            have HBs : Hid (Below w.heap.size w wr) := Lib.hid (HB13.out.trans (HSs.out.mono hs13))
            have hss := HBs.out.size
            by_cases hjt : j < la.length
            ·have hji : (j : Int) < la.length := by omega
             obtain ⟨y, hy⟩ : ∃ y, la[j]? = some y := ⟨_, List.getElem?_eq_getElem hjt⟩
             obtain ⟨gk, hgk⟩ := four_at y.g0 y.g1 y.g2 y.g3 hlt
             obtain ⟨s0, s1, se, t0, t1, te, hr1, hr2, hrr⟩ := lets_pair (n := y.sum) (g := gk) bmi.1 (HPOS.out y (List.mem_of_getElem? hy))
             have HR1 := Lib.hid hr1
             have HR2 := Lib.hid hr2
             have HRR_ := Lib.hid hrr
             have HY_ := Lib.hid hy
             have HGK := Lib.hid hgk
             clear hr1 hr2 hrr hy hgk
             obtain ⟨kg0, kg1, kg2⟩ := Hgs.out.c3
             have lt_g : w2.heap.size < wr.heap.size := Hgs.out.lt
             obtain ⟨kcc0, kcc1, kcc2⟩ := Hccs.out.c3
             have lt_cc : w2.heap.size + 1 < wr.heap.size := Hccs.out.lt
             go_wp2_with fail
             refine (Lets_at err miss full emp G H' d q' gs la j k y HY_.out hlt gk HGK.out _ (HGs.out.up zg) hgl' (HHs.out.up zg) hla' HE.out).mono ?_
             rw [HR1.out]
             rintro e w20 ⟨rfl, hb20⟩
             have Hg20 := Lib.hid (Holds.up (by have h := Hgs.out; exact zp4 : Holds _ (w2.heap.size) 24 #[.int .i64 err, .int .i64 miss, .slice G gs.length d]) hb20)
             have Hcc20 := Lib.hid (Holds.up (by have h := Hccs.out; exact zp4 : Holds _ (w2.heap.size + 1) 27 #[.int .i64 full, .int .i64 emp, .slice H' la.length q']) hb20)
             have Hv20 := Lib.hid (Holds.up (by have h := Hvs.out; exact zp4 : Holds _ (w7.heap.size) 24 #[.int .i64 er, .int .i64 mi, .slice G' gs.length d']) hb20)
             have Hp20 := Lib.hid (Holds.up (by have h := Hps.out; exact zp4 : Holds _ (w11.heap.size) 60 #[.int .i64 nl, .int .i64 nh]) hb20)
             have HS20 : Hid (Below wr.heap.size wr w20) := Lib.hid (Below.trans zg (hb20.mono (by first | exact Nat.le_refl _ | omega | (simp; done) | (simp; omega))))
             have HB20 : Hid (Below w.heap.size w w20) := Lib.hid (HBs.out.trans (HS20.out.mono hss))
             have hs20 := HB20.out.size
             have hst20 := HS20.out.size
             have HG20 := Lib.hid (HGs.out.up HS20.out)
             have HH20 := Lib.hid (HHs.out.up HS20.out)
             have HJ20 := Lib.hid (HJs.out.up HS20.out)
             clear hb20
             clear kg0 kg1 kg2 lt_g kcc0 kcc1 kcc2 lt_cc
             obtain ⟨kv0, kv1, kv2⟩ := Hv20.out.c3
             have lt_v : w7.heap.size < w20.heap.size := Hv20.out.lt
             obtain ⟨kcc0, kcc1, kcc2⟩ := Hcc20.out.c3
             have lt_cc : w2.heap.size + 1 < w20.heap.size := Hcc20.out.lt
             go_wp2_with fail
             refine (Lets_at er mi full emp G' H' d' q' gs la j k y HY_.out hlt gk HGK.out _ (HJ20.out.up zg) hgl' (HH20.out.up zg) hla' HE'.out).mono ?_
             rw [HR2.out]
             rintro e w21 ⟨rfl, hb21⟩
             have Hg21 := Lib.hid (Holds.up (by have h := Hg20.out; exact zp4 : Holds _ (w2.heap.size) 24 #[.int .i64 err, .int .i64 miss, .slice G gs.length d]) hb21)
             have Hcc21 := Lib.hid (Holds.up (by have h := Hcc20.out; exact zp4 : Holds _ (w2.heap.size + 1) 27 #[.int .i64 full, .int .i64 emp, .slice H' la.length q']) hb21)
             have Hv21 := Lib.hid (Holds.up (by have h := Hv20.out; exact zp4 : Holds _ (w7.heap.size) 24 #[.int .i64 er, .int .i64 mi, .slice G' gs.length d']) hb21)
             have Hp21 := Lib.hid (Holds.up (by have h := Hp20.out; exact zp4 : Holds _ (w11.heap.size) 60 #[.int .i64 nl, .int .i64 nh]) hb21)
             have Hls21 := Lib.hid (Holds.up (zp4 : Holds _ (w20.heap.size) 60 #[.int .i64 s0, .int .i64 s1]) hb21)
             have HS21 : Hid (Below w20.heap.size w20 w21) := Lib.hid (Below.trans zg (hb21.mono (by first | exact Nat.le_refl _ | omega | (simp; done) | (simp; omega))))
             have HB21 : Hid (Below w.heap.size w w21) := Lib.hid (HB20.out.trans (HS21.out.mono hs20))
             have hs21 := HB21.out.size
             have hst21 := HS21.out.size
             have HG21 := Lib.hid (HG20.out.up HS21.out)
             have HH21 := Lib.hid (HH20.out.up HS21.out)
             have HJ21 := Lib.hid (HJ20.out.up HS21.out)
             clear hb21
             clear kv0 kv1 kv2 lt_v kcc0 kcc1 kcc2 lt_cc
             obtain ⟨kls0, kls1⟩ := Hls21.out.c2
             have lt_ls : w20.heap.size < w21.heap.size := Hls21.out.lt
             rcases HRR_.out with ⟨rfl, rfl, p3, p4⟩ | ⟨rfl, rfl⟩ | ⟨rfl, rfl⟩
             all_goals
              go_wp2_with fail
              go_roundw
              case rel => exact ⟨j + 1, by go_num, by omega, HSs.out.trans ((HS20.out.mono hszm).trans ((HS21.out.mono (Nat.le_trans hszm hst20)).trans zg))⟩
              case measure => first | (simp [intOf]; done) | (simp [intOf]; omega)
            ·have hje : j = la.length := by omega
             go_wp2_with fail
             go_roundw
             case rel => exact ⟨k + 1, by go_num, by omega, HL13.out.trans (HSs.out.mono hszn)⟩
             case measure => first | (simp [intOf]; done) | (simp [intOf]; omega)
        ·as_aux_lemma =>
          have hk : (k : Int) = 4 := by omega
          rw [hk]
          clear hk hlt
          obtain ⟨kcc0, kcc1, kcc2⟩ := Hccr.out.c3
          have lt_cc : w2.heap.size + 1 < wr.heap.size := Hccr.out.lt
          go_wp2_with fail
          clear kcc0 kcc1 kcc2 lt_cc
          go_loopw [219] (fun v219 wz => ∃ i : Nat, v219 = .int .i64 (i : Int) ∧ i ≤ la.length ∧ Below wr.heap.size wr wz) (fun v219 _ => la.length - (intOf v219).toNat)
          case atStart => exact ⟨0, rfl, Nat.zero_le _, Below.refl _ _⟩
          case round =>
           obtain ⟨i, rfl, hil, hl⟩ := hrel
           have HSi := Lib.hid hl
           have hszi := hl.size
           clear hl
           have Hgi := Lib.hid (Hgr.out.up HSi.out)
           have Hcci := Lib.hid (Hccr.out.up HSi.out)
           have Hvi := Lib.hid (Hvr.out.up HSi.out)
           have Hpi := Lib.hid (Hpr.out.up HSi.out)
           have HGi := Lib.hid (HGr.out.up HSi.out)
           have HHi := Lib.hid (HHr.out.up HSi.out)
           have HJi := Lib.hid (HJr.out.up HSi.out)
           have HBi := Lib.hid (HBr.out.trans (HSi.out.mono hsr))
           have hsi := HBi.out.size
           by_cases hit : i < la.length
           ·have hii : (i : Int) < la.length := by omega
            go_wp2_with fail
            go_loopw [223] (fun v223 wy => ∃ j : Nat, v223 = .int .i64 (j : Int) ∧ j ≤ i ∧ Below wr.heap.size wr wy) (fun v223 _ => i - (intOf v223).toNat)
            case atStart => exact ⟨0, rfl, Nat.zero_le _, Below.refl _ _⟩
            case round =>
             obtain ⟨j, rfl, hji, hl⟩ := hrel
             have HSj := Lib.hid hl
             have hszj := hl.size
             clear hl
             have Hgj := Lib.hid (Hgi.out.up HSj.out)
             have Hccj := Lib.hid (Hcci.out.up HSj.out)
             have Hvj := Lib.hid (Hvi.out.up HSj.out)
             have Hpj := Lib.hid (Hpi.out.up HSj.out)
             have HGj := Lib.hid (HGi.out.up HSj.out)
             have HHj := Lib.hid (HHi.out.up HSj.out)
             have HJj := Lib.hid (HJi.out.up HSj.out)
             have HBj := Lib.hid (HBi.out.trans (HSj.out.mono hsi))
             have hsj := HBj.out.size
             by_cases hjt : j < i
             ·have hjj : (j : Int) < i := by omega
              obtain ⟨xb, yb, hx1, hy1, hxy⟩ := agree_pair bmi.1 HPOS.out (i : Int) (j : Int)
              have HX1 := Lib.hid hx1
              have HY1_ := Lib.hid hy1
              have HXY := Lib.hid hxy
              have hin1 := in_pair hit (Nat.lt_trans hjt hit)
              have hin2 := in_pair (Nat.lt_trans hjt hit) hit
              have htw1 : twice [(i : Int), (j : Int)] = false := twice_pair (by omega)
              have htw2 : twice [(j : Int), (i : Int)] = false := twice_pair (by omega)
              have HI1 := Lib.hid hin1
              have HI2 := Lib.hid hin2
              have HT1 := Lib.hid htw1
              have HT2 := Lib.hid htw2
              clear hx1 hy1 hxy hin1 hin2 htw1 htw2
              obtain ⟨kg0, kg1, kg2⟩ := Hgj.out.c3
              have lt_g : w2.heap.size < wr.heap.size := Hgj.out.lt
              obtain ⟨kcc0, kcc1, kcc2⟩ := Hccj.out.c3
              have lt_cc : w2.heap.size + 1 < wr.heap.size := Hccj.out.lt
              go_wp2_with fail
              refine (Agree_in err miss full emp G H' d q' gs la (some ⟨wr.heap.size, 0, none⟩) 2 [(i : Int), (j : Int)] _ (HGj.out.up zg) hgl' (HHj.out.up zg) hla' HE.out (ints_block (Holds.new _ _ _) rfl) (by simp) HI1.out HT1.out).mono ?_
              rw [HX1.out]
              rintro e w30 ⟨rfl, hb30⟩
              have Hg30 := Lib.hid (Holds.up (by have h := Hgj.out; exact zp4 : Holds _ (w2.heap.size) 24 #[.int .i64 err, .int .i64 miss, .slice G gs.length d]) hb30)
              have Hcc30 := Lib.hid (Holds.up (by have h := Hccj.out; exact zp4 : Holds _ (w2.heap.size + 1) 27 #[.int .i64 full, .int .i64 emp, .slice H' la.length q']) hb30)
              have Hv30 := Lib.hid (Holds.up (by have h := Hvj.out; exact zp4 : Holds _ (w7.heap.size) 24 #[.int .i64 er, .int .i64 mi, .slice G' gs.length d']) hb30)
              have Hp30 := Lib.hid (Holds.up (by have h := Hpj.out; exact zp4 : Holds _ (w11.heap.size) 60 #[.int .i64 nl, .int .i64 nh]) hb30)
              have HS30 : Hid (Below wr.heap.size wr w30) := Lib.hid (Below.trans zg (hb30.mono (by first | exact Nat.le_refl _ | omega | (simp; done) | (simp; omega))))
              have HB30 : Hid (Below w.heap.size w w30) := Lib.hid (HBj.out.trans (HS30.out.mono hsj))
              have hs30 := HB30.out.size
              have hst30 := HS30.out.size
              have HG30 := Lib.hid (HGj.out.up HS30.out)
              have HH30 := Lib.hid (HHj.out.up HS30.out)
              have HJ30 := Lib.hid (HJj.out.up HS30.out)
              clear hb30
              clear kg0 kg1 kg2 lt_g kcc0 kcc1 kcc2 lt_cc
              obtain ⟨kv0, kv1, kv2⟩ := Hv30.out.c3
              have lt_v : w7.heap.size < w30.heap.size := Hv30.out.lt
              obtain ⟨kcc0, kcc1, kcc2⟩ := Hcc30.out.c3
              have lt_cc : w2.heap.size + 1 < w30.heap.size := Hcc30.out.lt
              go_wp2_with fail
              refine (Agree_in er mi full emp G' H' d' q' gs la (some ⟨w30.heap.size, 0, none⟩) 2 [(j : Int), (i : Int)] _ (HJ30.out.up zg) hgl' (HH30.out.up zg) hla' HE'.out (ints_block (Holds.new _ _ _) rfl) (by simp) HI2.out HT2.out).mono ?_
              rw [HY1_.out]
              rintro e w31 ⟨rfl, hb31⟩
              have Hg31 := Lib.hid (Holds.up (by have h := Hg30.out; exact zp4 : Holds _ (w2.heap.size) 24 #[.int .i64 err, .int .i64 miss, .slice G gs.length d]) hb31)
              have Hcc31 := Lib.hid (Holds.up (by have h := Hcc30.out; exact zp4 : Holds _ (w2.heap.size + 1) 27 #[.int .i64 full, .int .i64 emp, .slice H' la.length q']) hb31)
              have Hv31 := Lib.hid (Holds.up (by have h := Hv30.out; exact zp4 : Holds _ (w7.heap.size) 24 #[.int .i64 er, .int .i64 mi, .slice G' gs.length d']) hb31)
              have Hp31 := Lib.hid (Holds.up (by have h := Hp30.out; exact zp4 : Holds _ (w11.heap.size) 60 #[.int .i64 nl, .int .i64 nh]) hb31)
              have HS31 : Hid (Below w30.heap.size w30 w31) := Lib.hid (Below.trans zg (hb31.mono (by first | exact Nat.le_refl _ | omega | (simp; done) | (simp; omega))))
              have HB31 : Hid (Below w.heap.size w w31) := Lib.hid (HB30.out.trans (HS31.out.mono hs30))
              have hs31 := HB31.out.size
              have hst31 := HS31.out.size
              have HG31 := Lib.hid (HG30.out.up HS31.out)
              have HH31 := Lib.hid (HH30.out.up HS31.out)
              have HJ31 := Lib.hid (HJ30.out.up HS31.out)
              clear hb31
              clear kv0 kv1 kv2 lt_v kcc0 kcc1 kcc2 lt_cc
              rcases HXY.out with ⟨rfl, rfl⟩ | ⟨rfl, rfl⟩ | ⟨rfl, rfl⟩
              all_goals
               go_wp2_with fail
               go_roundw
               case rel => exact ⟨j + 1, by go_num, by omega, HSj.out.trans ((HS30.out.mono hszj).trans (HS31.out.mono (Nat.le_trans hszj hst30)))⟩
               case measure => first | (simp [intOf]; done) | (simp [intOf]; omega)
             ·go_wp2_with fail
              go_roundw
              case rel => exact ⟨i + 1, by go_num, by omega, HSi.out.trans (HSj.out.mono hszi)⟩
              case measure => first | (simp [intOf]; done) | (simp [intOf]; omega)
           ·go_wp2_with fail
            refine (awake_any _).mono ?_
            rintro e w40 ⟨rfl, hb40⟩
            go_wp2_with fail
            go_ret
            exact ⟨rfl, HBi.out.trans (hb40.mono hsi)⟩
end Go.Proofs.Ytdpgfaikmahmpaa
