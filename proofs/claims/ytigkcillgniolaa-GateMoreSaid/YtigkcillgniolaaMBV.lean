import Derived.Deep.CutRange
import Derived.Test.YtigkcillgniolaaMAA
import Derived.Test.YtigkcillgniolaaMAC
import Derived.Test.YtigkcillgniolaaMBF
import Derived.Test.YtigkcillgniolaaMBS
import Derived.Test.YtigkcillgniolaaMBT
import Derived.Test.YtigkcillgniolaaMBU
set_option linter.unusedSimpArgs false
set_option linter.unusedVariables false
namespace Go.Proofs.Ytigkcillgniolaa
open Go.RowKit
theorem bx_lo (B : Bx) (k : Nat) : bxl B k = bLo B k := by
 match k with
 | 0 => rfl
 | 1 => rfl
 | 2 => rfl
 | _ + 3 => rfl
theorem bx_hi (B : Bx) (k : Nat) : bxh B k = bHi B k := by
 match k with
 | 0 => rfl
 | 1 => rfl
 | 2 => rfl
 | _ + 3 => rfl
theorem HandsAt.pre {w : World} {A : Option Addr} {xs ys : List Hf} (h : HandsAt w A (xs ++ ys)) : HandsAt w A xs := fun hn => by
 obtain ⟨B, o, e, hc⟩ := h (by rw [List.length_append]; omega)
 exact ⟨B, o, e, fun k x hx => hc k x (by rw [List.getElem?_append_left (List.getElem?_eq_some_iff.1 hx).1]; exact hx)⟩
theorem Holds.other {W w : World} {B mb : Nat} {t u : TypeId} {cs ds : Array Value} (h : Holds W B t cs) (s : Holds W mb u ds) (g : W.grownBy w (some mb)) (hne : t ≠ u) : Holds w B t cs :=
 h.grown g (fun e => by subst e; have h1 := h.symm.trans s; simp at h1; exact hne h1.2)
theorem Holds.apart {W : World} {B mb : Nat} {t u : TypeId} {cs ds : Array Value} (h : Holds W B t cs) (s : Holds W mb u ds) (hne : t ≠ u) : B ≠ mb :=
 fun e => by subst e; have h1 := h.symm.trans s; simp at h1; exact hne h1.2
theorem Holds.far3 {w : World} {B b : Nat} {t u : TypeId} {cs ds : Array Value} (h : Holds w B t cs) (s : Holds w b u ds) (hne : t ≠ u) (v0 v1 v2 : Value) : Holds (((w.setCell ⟨b, 0, none⟩ v0).setCell ⟨b, 1, none⟩ v1).setCell ⟨b, 2, none⟩ v2) B t cs :=
 Holds.far (p := ⟨b, 2, none⟩) (Holds.far (p := ⟨b, 1, none⟩) (Holds.far (p := ⟨b, 0, none⟩) h (h.apart s hne) _) (h.apart s hne) _) (h.apart s hne) _
set_option maxRecDepth 100000 in
set_option maxHeartbeats 16000000 in
theorem GateMore_any (a0 : Option Addr) (len0 cap0 : Nat) (z0 : List Int) (a1 : Option Addr) (len1 cap1 : Nat) (z1 : List Int) (w : World) (w0 : RowIn w a0 len0 cap0 z0) (w1_ : RowIn w a1 len1 cap1 z1) :
  Calls Try.prog 9 #[.slice a0 len0 cap0, .slice a1 len1 cap1] w fun e w' => e = .returned (.bool true) ∧ Below w.heap.size w w' := by
 obtain ⟨hB0, hn⟩ := bytes_of w0
 obtain ⟨hB1, hn1⟩ := bytes_of w1_
 have HY0 := Lib.hid hB0
 have HY1 := Lib.hid hB1
 clear hB0 hB1 w0 w1_
 go_enter Try.func9, Try.ntmps9
 go_wp2_with fail
 refine (Fill_any a0 len0 cap0 _ hn).mono ?_
 rintro e w1 ⟨m, rfl, hS1, hb1⟩
 have HS1 := Lib.hid hS1
 have HB1 := Lib.hid hb1
 clear hS1 hb1
 go_wp2_with fail
 refine (Made_any w.heap.size a0 len0 cap0 0 m 4 5 (by decide) (by decide) (by decide) (by decide) w1 HS1.out (HY0.out.up HB1.out) hn (by decide)).mono ?_
 rintro e w2 ⟨err, miss, full, emp, m0, m1, m2, m3, gs, hs, G, H, d, q, tk1, mm, rfl, hok, hgl, hhl, hog, hoh, -, -, hg2⟩
 have hgl4 : gs.length ≤ 4 := by omega
 have hhl5 : hs.length ≤ 5 := by omega
 have HB2 := Lib.hid (HB1.out.grown hg2 (by have := HS1.out.lt; omega) (fun k hk => by cases hk; exact Nat.le_refl _))
 obtain ⟨_, _, e1, hgd, hG⟩ := hog.at_
 cases e1
 obtain ⟨_, _, e1, _, hH⟩ := hoh.at_
 cases e1
 have HG := Lib.hid hG
 have HH := Lib.hid hH
 have HOK := Lib.hid hok
 clear hok hog hoh hg2 hG hH HS1 HB1
 have hgl' : gs.length ≤ 1000 := by omega
 have hhl' : hs.length ≤ 1000 := by omega
 have HE := Lib.hid (HOK.out.both hgl4 (by omega))
 have HEC := Lib.hid (HOK.out.cart (by omega))
 obtain ⟨e0, e1, i0, i1, y0_, y1_, f0, f1, _, _, _⟩ := HOK.out
 have i2 : miss ≤ 20 := by omega
 have hz2 := HB2.out.size
 have HMX := Lib.hid HOK.out.mix
 go_wp2_with fail
 refine wp_world (fun w3 => Below w2.heap.size w2 w3 ∧ w2.heap.size + 1 + 1 + 1 ≤ w3.heap.size ∧ Holds w3 (w2.heap.size) 24 #[.int .i64 err, .int .i64 miss, .slice G gs.length d] ∧ Holds w3 (w2.heap.size + 1) 27 #[.int .i64 full, .int .i64 emp, .slice H hs.length q] ∧ Holds w3 (w2.heap.size + 1 + 1) 28 #[.int .i64 m0, .int .i64 m1, .int .i64 m2, .int .i64 m3] ∧ True) ?_ ?_
 ·exact ⟨zg, (by simp; (try omega)), zp4, zp4, zp4, trivial⟩
 rintro w3 ⟨hB3, hS3, hHg, hHc, hHm, -⟩
 have HB3 := Lib.hid hB3
 have Hg3 := Lib.hid hHg
 have Hc3 := Lib.hid hHc
 have Hm3 := Lib.hid hHm
 clear hB3 hHg hHc hHm
 have HH3 := Lib.hid (HH.out.up HB3.out)
 have HY3 := Lib.hid (HY1.out.up (HB2.out.trans (HB3.out.mono hz2)))
 rename_i Kc hKc
 have HSL := Lib.hid (show slotsOf [some 32, some 33, some 34, some 35, some 36, some 37, some 38, some 31, some 39, some 40, some 8, none, some 9] = [32, 33, 34, 35, 36, 37, 38, 31, 39, 40, 8, 9] from rfl)
 refine wp_region_partsG (by kernel_rfl) [some 32, some 33, some 34, some 35, some 36, some 37, some 38, some 31, some 39, some 40, some 8, none, some 9] (fun jq xq w' => match jq with
  | 0 => xq 32 = .agg #[.int .i64 full, .int .i64 emp, .slice H hs.length q]
  | 1 => xq 33 = .slice a1 len1 cap1
  | 2 => ∃ b sm, xq 34 = .pointer (some ⟨b, 0, none⟩) ∧ w3.heap.size ≤ b ∧ Holds w' b 172 #[.slice a1 len1 cap1, .int .i64 ((0 : Nat) : Int), .int .u32 sm]
  | 3 => xq 35 = .agg #[.int .i64 err, .int .i64 miss, .slice G gs.length d]
  | 4 => xq 36 = .agg #[.int .i64 m0, .int .i64 m1, .int .i64 m2, .int .i64 m3]
  | 5 => ∃ y, xq 37 = .agg #[.int .i64 y.spot, .int .i64 y.g0, .int .i64 y.g1, .int .i64 y.g2, .int .i64 y.g3] ∧ TakenOk miss m0 m1 m2 m3 y
  | 6 => ∃ B y, xq 38 = .tuple #[.agg #[.int .i64 full, .int .i64 emp, .slice (some ⟨B, 0, none⟩) (hs.length + 1) (hs.length + 1)], .int .i64 0] ∧ w3.heap.size ≤ B ∧ Holds w' B 30 ((hs ++ [y]).flatMap Hf.cells).toArray ∧ TakenOk miss m0 m1 m2 m3 y
  | 7 => ∃ B y, xq 31 = .tuple #[.agg #[.int .i64 full, .int .i64 emp, .slice (some ⟨B, 0, none⟩) (hs.length + 1) (hs.length + 1)], .int .i64 0] ∧ w3.heap.size ≤ B ∧ Holds w' B 30 ((hs ++ [y]).flatMap Hf.cells).toArray ∧ TakenOk miss m0 m1 m2 m3 y
  | 8 => ∃ B y, xq 39 = .agg #[.int .i64 full, .int .i64 emp, .slice (some ⟨B, 0, none⟩) (hs.length + 1) (hs.length + 1)] ∧ w3.heap.size ≤ B ∧ Holds w' B 30 ((hs ++ [y]).flatMap Hf.cells).toArray ∧ TakenOk miss m0 m1 m2 m3 y
  | 9 => xq 40 = .int .i64 0
  | 10 => ∃ b, xq 8 = .pointer (some ⟨b, 0, none⟩) ∧ w3.heap.size ≤ b ∧ Holds w' b 27 #[.int .i64 0, .int .i64 0, .slice none 0 0]
  | 11 => ∃ b B y, xq 8 = .pointer (some ⟨b, 0, none⟩) ∧ w3.heap.size ≤ b ∧ Holds w' b 27 #[.int .i64 full, .int .i64 emp, .slice (some ⟨B, 0, none⟩) (hs.length + 1) (hs.length + 1)] ∧ w3.heap.size ≤ B ∧ Holds w' B 30 ((hs ++ [y]).flatMap Hf.cells).toArray ∧ TakenOk miss m0 m1 m2 m3 y
  | 12 => xq 9 = .int .i64 0
  | _ => True) [[32], [33], [34], [35], [36], [37], [38], [31], [39], [40], [8], [8], [9]] [(5, 2), (11, 10)] (fun w' => Below w3.heap.size w3 w') (by kernel_rfl)  ?_ ?_ (fun w' w'' hb h => h.trans (hb.mono h.size)) (Below.refl _ _) ?_ ?_ ?_
 ·intro jq xq xq' wqq h hv
  match jq, h, hv with
  | 0, h, hv => show xq' 32 = .agg #[.int .i64 full, .int .i64 emp, .slice H hs.length q]; rw [← h 32 (by decide)]; exact hv
  | 1, h, hv => show xq' 33 = .slice a1 len1 cap1; rw [← h 33 (by decide)]; exact hv
  | 2, h, hv => show ∃ b sm, xq' 34 = .pointer (some ⟨b, 0, none⟩) ∧ w3.heap.size ≤ b ∧ Holds wqq b 172 #[.slice a1 len1 cap1, .int .i64 ((0 : Nat) : Int), .int .u32 sm]; rw [← h 34 (by decide)]; exact hv
  | 3, h, hv => show xq' 35 = .agg #[.int .i64 err, .int .i64 miss, .slice G gs.length d]; rw [← h 35 (by decide)]; exact hv
  | 4, h, hv => show xq' 36 = .agg #[.int .i64 m0, .int .i64 m1, .int .i64 m2, .int .i64 m3]; rw [← h 36 (by decide)]; exact hv
  | 5, h, hv => show ∃ y, xq' 37 = .agg #[.int .i64 y.spot, .int .i64 y.g0, .int .i64 y.g1, .int .i64 y.g2, .int .i64 y.g3] ∧ TakenOk miss m0 m1 m2 m3 y; rw [← h 37 (by decide)]; exact hv
  | 6, h, hv => show ∃ B y, xq' 38 = .tuple #[.agg #[.int .i64 full, .int .i64 emp, .slice (some ⟨B, 0, none⟩) (hs.length + 1) (hs.length + 1)], .int .i64 0] ∧ w3.heap.size ≤ B ∧ Holds wqq B 30 ((hs ++ [y]).flatMap Hf.cells).toArray ∧ TakenOk miss m0 m1 m2 m3 y; rw [← h 38 (by decide)]; exact hv
  | 7, h, hv => show ∃ B y, xq' 31 = .tuple #[.agg #[.int .i64 full, .int .i64 emp, .slice (some ⟨B, 0, none⟩) (hs.length + 1) (hs.length + 1)], .int .i64 0] ∧ w3.heap.size ≤ B ∧ Holds wqq B 30 ((hs ++ [y]).flatMap Hf.cells).toArray ∧ TakenOk miss m0 m1 m2 m3 y; rw [← h 31 (by decide)]; exact hv
  | 8, h, hv => show ∃ B y, xq' 39 = .agg #[.int .i64 full, .int .i64 emp, .slice (some ⟨B, 0, none⟩) (hs.length + 1) (hs.length + 1)] ∧ w3.heap.size ≤ B ∧ Holds wqq B 30 ((hs ++ [y]).flatMap Hf.cells).toArray ∧ TakenOk miss m0 m1 m2 m3 y; rw [← h 39 (by decide)]; exact hv
  | 9, h, hv => show xq' 40 = .int .i64 0; rw [← h 40 (by decide)]; exact hv
  | 10, h, hv => show ∃ b, xq' 8 = .pointer (some ⟨b, 0, none⟩) ∧ w3.heap.size ≤ b ∧ Holds wqq b 27 #[.int .i64 0, .int .i64 0, .slice none 0 0]; rw [← h 8 (by decide)]; exact hv
  | 11, h, hv => show ∃ b B y, xq' 8 = .pointer (some ⟨b, 0, none⟩) ∧ w3.heap.size ≤ b ∧ Holds wqq b 27 #[.int .i64 full, .int .i64 emp, .slice (some ⟨B, 0, none⟩) (hs.length + 1) (hs.length + 1)] ∧ w3.heap.size ≤ B ∧ Holds wqq B 30 ((hs ++ [y]).flatMap Hf.cells).toArray ∧ TakenOk miss m0 m1 m2 m3 y; rw [← h 8 (by decide)]; exact hv
  | 12, h, hv => show xq' 9 = .int .i64 0; rw [← h 9 (by decide)]; exact hv
  | _ + 13, _, _ => trivial
 ·intro jq xq wqq w' hb' hv
  match jq, hv with
  | 0, hv => exact hv
  | 1, hv => exact hv
  | 2, ⟨b0, b1, h0, h1, h2⟩ => exact ⟨b0, b1, h0, h1, h2.up hb'⟩
  | 3, hv => exact hv
  | 4, hv => exact hv
  | 5, ⟨b0, h0, h1⟩ => exact ⟨b0, h0, h1⟩
  | 6, ⟨b0, b1, h0, h1, h2, h3⟩ => exact ⟨b0, b1, h0, h1, h2.up hb', h3⟩
  | 7, ⟨b0, b1, h0, h1, h2, h3⟩ => exact ⟨b0, b1, h0, h1, h2.up hb', h3⟩
  | 8, ⟨b0, b1, h0, h1, h2, h3⟩ => exact ⟨b0, b1, h0, h1, h2.up hb', h3⟩
  | 9, hv => exact hv
  | 10, ⟨b0, h0, h1, h2⟩ => exact ⟨b0, h0, h1, h2.up hb'⟩
  | 11, ⟨b0, b1, b2, h0, h1, h2, h3, h4, h5⟩ => exact ⟨b0, b1, b2, h0, h1, h2.up hb', h3, h4.up hb', h5⟩
  | 12, hv => exact hv
  | _ + 13, _ => trivial
 ·intro jq hj
  match jq, hj with
  | 0, hj => exact absurd hj (by decide)
  | 1, hj => exact absurd hj (by decide)
  | 2, hj => exact absurd hj (by decide)
  | 3, hj => exact absurd hj (by decide)
  | 4, hj => exact absurd hj (by decide)
  | 5, hj => exact absurd hj (by decide)
  | 6, hj => exact absurd hj (by decide)
  | 7, hj => exact absurd hj (by decide)
  | 8, hj => exact absurd hj (by decide)
  | 9, hj => exact absurd hj (by decide)
  | 10, hj => exact absurd hj (by decide)
  | 11, hj => exact absurd hj (by decide)
  | 12, hj => exact absurd hj (by decide)
  | _ + 13, _ => trivial
 ·refine ⟨?_, ?_, ?_, ?_, ?_, ?_, ?_, ?_, ?_, ?_, ?_, ?_, ?_, trivial⟩
  ·intro xq w4 hb4 hx K hK0
   have hK := fun v w' hb => hK0 v w' (.inl hb)
   clear hx hKc hK0
   obtain ⟨kc0, kc1, kc2⟩ := (Hc3.out.up hb4).c3
   simp only [frameOf, fill, setSlot, sg, Nat.reduceBEq, if_true, if_false, Nat.reduceAdd, Nat.reduceEqDiff, HSL.out] at hK ⊢
   go_wp2_with (fail)
   exact hK _ _ (Below.refl _ _) rfl
  ·intro xq w4 hb4 hx K hK0
   have hK := fun v w' hb => hK0 v w' (.inl hb)
   clear hx hKc hK0
   simp only [frameOf, fill, setSlot, sg, Nat.reduceBEq, if_true, if_false, Nat.reduceAdd, Nat.reduceEqDiff, HSL.out] at hK ⊢
   go_wp2_with (fail)
   exact hK _ _ (Below.refl _ _) rfl
  ·intro xq w4 hb4 hx K hK0
   have hK := fun v w' hb => hK0 v w' (.inl hb)
   have e33 : xq 33 = .slice a1 len1 cap1 := hx 1 (by rfl) (by rfl)
   clear hx hKc hK0
   simp only [frameOf, fill, setSlot, sg, Nat.reduceBEq, if_true, if_false, Nat.reduceAdd, Nat.reduceEqDiff, HSL.out] at hK ⊢
   simp only [e33] at hK ⊢
   clear e33
   go_wp2_with (go_at_call 63; refine (Fill_any a1 len1 cap1 _ hn1).mono ?_; rintro e w2_ ⟨sm, rfl, hs_, hb_⟩)
   exact hK _ _ hb_ ⟨_, sm, rfl, hb4.size, hs_⟩
  ·intro xq w4 hb4 hx K hK0
   have hK := fun v w' hb => hK0 v w' (.inl hb)
   clear hx hKc hK0
   obtain ⟨kg0, kg1, kg2⟩ := (Hg3.out.up hb4).c3
   simp only [frameOf, fill, setSlot, sg, Nat.reduceBEq, if_true, if_false, Nat.reduceAdd, Nat.reduceEqDiff, HSL.out] at hK ⊢
   go_wp2_with (fail)
   exact hK _ _ (Below.refl _ _) rfl
  ·intro xq w4 hb4 hx K hK0
   have hK := fun v w' hb => hK0 v w' (.inl hb)
   clear hx hKc hK0
   obtain ⟨km0, km1, km2, km3⟩ := (Hm3.out.up hb4).c4
   simp only [frameOf, fill, setSlot, sg, Nat.reduceBEq, if_true, if_false, Nat.reduceAdd, Nat.reduceEqDiff, HSL.out] at hK ⊢
   go_wp2_with (fail)
   exact hK _ _ (Below.refl _ _) rfl
  ·intro xq w4 hb4 hx K hK0
   have hK := fun v w' hb => hK0 v w' (.inr hb)
   obtain ⟨b34, sm34, e34, f34_0, f34_1⟩ := hx 2 (by rfl) (by rfl)
   have e35 : xq 35 = .agg #[.int .i64 err, .int .i64 miss, .slice G gs.length d] := hx 3 (by rfl) (by rfl)
   have e36 : xq 36 = .agg #[.int .i64 m0, .int .i64 m1, .int .i64 m2, .int .i64 m3] := hx 4 (by rfl) (by rfl)
   clear hx hKc hK0
   simp only [frameOf, fill, setSlot, sg, Nat.reduceBEq, if_true, if_false, Nat.reduceAdd, Nat.reduceEqDiff, HSL.out] at hK ⊢
   simp only [e34, e35, e36] at hK ⊢
   clear e34 e35 e36
   go_wp2_with (go_at_call 69; refine (Taken_any b34 a1 len1 cap1 0 sm34 err miss G gs.length d m0 m1 m2 m3 HMX.out i0 i2 _ f34_1 (HY3.out.up hb4) hn1 (by decide)).mono ?_; rintro e w2_ ⟨y, tkx, mmx, rfl, hok, htk, hsk, g⟩)
   refine hK _ _ ⟨(hb4.grown g hb4.size (fun k hk => by cases hk; exact f34_0)), ?_⟩ ⟨y, rfl, hok⟩
   intro jq xq hd hne hv
   match jq, hd, hne, hv with
   | 0, _, _, hv => exact hv
   | 1, _, _, hv => exact hv
   | 2, hd, _, _ => exact absurd hd (by decide)
   | 3, _, _, hv => exact hv
   | 4, _, _, hv => exact hv
   | 5, _, hne, _ => exact absurd rfl hne
   | 6, _, _, hv => obtain ⟨B, y', e1, h1, h2, h3⟩ := hv; exact ⟨B, y', e1, h1, h2.other f34_1 g (by decide), h3⟩
   | 7, _, _, hv => obtain ⟨B, y', e1, h1, h2, h3⟩ := hv; exact ⟨B, y', e1, h1, h2.other f34_1 g (by decide), h3⟩
   | 8, _, _, hv => obtain ⟨B, y', e1, h1, h2, h3⟩ := hv; exact ⟨B, y', e1, h1, h2.other f34_1 g (by decide), h3⟩
   | 9, _, _, hv => exact hv
   | 10, _, _, hv => obtain ⟨b, e1, h1, h2⟩ := hv; exact ⟨b, e1, h1, h2.other f34_1 g (by decide)⟩
   | 11, _, _, hv => obtain ⟨b, B, y', e1, h1, h2, h3, h4, h5⟩ := hv; exact ⟨b, B, y', e1, h1, h2.other f34_1 g (by decide), h3, h4.other f34_1 g (by decide), h5⟩
   | 12, _, _, hv => exact hv
   | _ + 13, _, _, _ => trivial
  ·intro xq w4 hb4 hx K hK0
   have hK := fun v w' hb => hK0 v w' (.inl hb)
   have e32 : xq 32 = .agg #[.int .i64 full, .int .i64 emp, .slice H hs.length q] := hx 0 (by rfl) (by rfl)
   obtain ⟨y37, e37, f37_0⟩ := hx 5 (by rfl) (by rfl)
   clear hx hKc hK0
   simp only [frameOf, fill, setSlot, sg, Nat.reduceBEq, if_true, if_false, Nat.reduceAdd, Nat.reduceEqDiff, HSL.out] at hK ⊢
   simp only [e32, e37] at hK ⊢
   clear e32 e37
   go_wp2_with (go_at_call 21; refine (Take_ok full emp H q hs y37 _ (HH3.out.up hb4) hhl5 HEC.out ((HOK.out.snoc f37_0).cart (by rw [List.length_append]; show hs.length + 1 ≤ 6; omega))).mono ?_; rintro e w2_ ⟨B, rfl, hO_, hB_, hb_⟩)
   exact hK _ _ hb_ ⟨_, _, rfl, Nat.le_trans hb4.size hB_, hO_, f37_0⟩
  ·intro xq w4 hb4 hx K hK0
   have hK := fun v w' hb => hK0 v w' (.inl hb)
   obtain ⟨B38, y38, e38, f38_0, f38_1, f38_2⟩ := hx 6 (by rfl) (by rfl)
   clear hx hKc hK0
   simp only [frameOf, fill, setSlot, sg, Nat.reduceBEq, if_true, if_false, Nat.reduceAdd, Nat.reduceEqDiff, HSL.out] at hK ⊢
   simp only [e38] at hK ⊢
   clear e38
   go_wp2_with (fail)
   exact hK _ _ (Below.refl _ _) ⟨_, _, rfl, f38_0, f38_1, f38_2⟩
  ·intro xq w4 hb4 hx K hK0
   have hK := fun v w' hb => hK0 v w' (.inl hb)
   obtain ⟨B31, y31, e31, f31_0, f31_1, f31_2⟩ := hx 7 (by rfl) (by rfl)
   clear hx hKc hK0
   simp only [frameOf, fill, setSlot, sg, Nat.reduceBEq, if_true, if_false, Nat.reduceAdd, Nat.reduceEqDiff, HSL.out] at hK ⊢
   simp only [e31] at hK ⊢
   clear e31
   go_wp2_with (fail)
   exact hK _ _ (Below.refl _ _) ⟨_, _, rfl, f31_0, f31_1, f31_2⟩
  ·intro xq w4 hb4 hx K hK0
   have hK := fun v w' hb => hK0 v w' (.inl hb)
   obtain ⟨B31, y31, e31, f31_0, f31_1, f31_2⟩ := hx 7 (by rfl) (by rfl)
   clear hx hKc hK0
   simp only [frameOf, fill, setSlot, sg, Nat.reduceBEq, if_true, if_false, Nat.reduceAdd, Nat.reduceEqDiff, HSL.out] at hK ⊢
   simp only [e31] at hK ⊢
   clear e31
   go_wp2_with (fail)
   exact hK _ _ (Below.refl _ _) rfl
  ·intro xq w4 hb4 hx K hK0
   have hK := fun v w' hb => hK0 v w' (.inl hb)
   clear hx hKc hK0
   simp only [frameOf, fill, setSlot, sg, Nat.reduceBEq, if_true, if_false, Nat.reduceAdd, Nat.reduceEqDiff, HSL.out] at hK ⊢
   go_wp2_with (fail)
   exact hK _ _ ((Below.refl _ _).alloc (Nat.le_refl _) _) ⟨_, rfl, hb4.size, Holds.new _ _ _⟩
  ·intro xq w4 hb4 hx K hK0
   have hK := fun v w' hb => hK0 v w' (.inr hb)
   obtain ⟨B39, y39, e39, f39_0, f39_1, f39_2⟩ := hx 8 (by rfl) (by rfl)
   obtain ⟨b8, e8, f8_0, f8_1⟩ := hx 10 (by rfl) (by rfl)
   clear hx hKc hK0
   obtain ⟨c0, c1, c2⟩ := f8_1.c3
   obtain ⟨z0, z1, z2⟩ := f8_1.f3
   simp only [frameOf, fill, setSlot, sg, Nat.reduceBEq, if_true, if_false, Nat.reduceAdd, Nat.reduceEqDiff, HSL.out] at hK ⊢
   have E39 := Lib.hid e39
   have E8 := Lib.hid e8
   simp only [e39, e8] at hK ⊢
   clear e39 e8
   go_wp2_with (fail)
   refine hK undef _ ⟨zg, ?_⟩ ⟨_, _, _, rfl, f8_0, Holds.set3 _ _ _ f8_1, f39_0, f39_1.far3 f8_1 (by decide) _ _ _, f39_2⟩
   intro jq xq hd hne hv
   match jq, hd, hne, hv with
   | 0, _, _, hv => exact hv
   | 1, _, _, hv => exact hv
   | 2, _, _, hv => obtain ⟨b, m', e1, h1, h2⟩ := hv; exact ⟨b, m', e1, h1, h2.far3 f8_1 (by decide) _ _ _⟩
   | 3, _, _, hv => exact hv
   | 4, _, _, hv => exact hv
   | 5, _, _, hv => exact hv
   | 6, _, _, hv => obtain ⟨B, y', e1, h1, h2, h3⟩ := hv; exact ⟨B, y', e1, h1, h2.far3 f8_1 (by decide) _ _ _, h3⟩
   | 7, _, _, hv => obtain ⟨B, y', e1, h1, h2, h3⟩ := hv; exact ⟨B, y', e1, h1, h2.far3 f8_1 (by decide) _ _ _, h3⟩
   | 8, _, _, hv => obtain ⟨B, y', e1, h1, h2, h3⟩ := hv; exact ⟨B, y', e1, h1, h2.far3 f8_1 (by decide) _ _ _, h3⟩
   | 9, _, _, hv => exact hv
   | 10, hd, _, _ => exact absurd hd (by decide)
   | 11, _, hne, _ => exact absurd rfl hne
   | 12, _, _, hv => exact hv
   | _ + 13, _, _, _ => trivial
  ·intro xq w4 hb4 hx K hK0
   have hK := fun v w' hb => hK0 v w' (.inl hb)
   have e40 : xq 40 = .int .i64 0 := hx 9 (by rfl) (by rfl)
   clear hx hKc hK0
   simp only [frameOf, fill, setSlot, sg, Nat.reduceBEq, if_true, if_false, Nat.reduceAdd, Nat.reduceEqDiff, HSL.out] at hK ⊢
   simp only [e40] at hK ⊢
   clear e40
   go_wp2_with (fail)
   exact hK _ _ (Below.refl _ _) rfl
 ·intro xq w4 hb4 hx
  have e32 : xq 32 = .agg #[.int .i64 full, .int .i64 emp, .slice H hs.length q] := hx 0 (by decide)
  have e33 : xq 33 = .slice a1 len1 cap1 := hx 1 (by decide)
  have e35 : xq 35 = .agg #[.int .i64 err, .int .i64 miss, .slice G gs.length d] := hx 3 (by decide)
  have e36 : xq 36 = .agg #[.int .i64 m0, .int .i64 m1, .int .i64 m2, .int .i64 m3] := hx 4 (by decide)
  obtain ⟨y37, e37, f37_0⟩ := hx 5 (by decide)
  obtain ⟨B38, y38, e38, f38_0, f38_1, f38_2⟩ := hx 6 (by decide)
  obtain ⟨B31, y31, e31, f31_0, f31_1, f31_2⟩ := hx 7 (by decide)
  obtain ⟨B39, y39, e39, f39_0, f39_1, f39_2⟩ := hx 8 (by decide)
  have e40 : xq 40 = .int .i64 0 := hx 9 (by decide)
  obtain ⟨bn11, Bn11, yn11, fn11_0, fn11_1, fn11_2, fn11_3, fn11_4, fn11_5⟩ := hx 11 (by decide)
  have e9 : xq 9 = .int .i64 0 := hx 12 (by decide)
  clear hx
  simp only [frameOf, fill, setSlot, sg, Nat.reduceBEq, if_true, if_false, Nat.reduceAdd, Nat.reduceEqDiff, HSL.out]
  simp only [e32, e33, e35, e36, e37, e38, e31, e39, e40, fn11_0, e9]
  clear e32 e33 e35 e36 e37 e38 e31 e39 e40 fn11_0 e9
  refine hKc _ _ ?_
  have hok' := HOK.out.snoc fn11_5
  have HH'4_ := hands_of fn11_4
  have hsub_ := bounds_sub hok'
  obtain ⟨hs', hhs⟩ : ∃ z, z = hs ++ [yn11] := ⟨_, rfl⟩
  have hl' : hs'.length = hs.length + 1 := by rw [hhs, List.length_append]; rfl
  have HHp4 := Lib.hid HH'4_.pre
  rw [← hhs] at hok' HH'4_ hsub_
  have HOK' := Lib.hid hok'
  have HH'4 := Lib.hid HH'4_
  have HSUB := Lib.hid hsub_
  have Hd4 : Hid (Holds w4 (bn11) 27 #[.int .i64 full, .int .i64 emp, .slice (some ⟨Bn11, 0, none⟩) hs'.length (hs.length + 1)]) := Lib.hid (by rw [hl']; exact fn11_2)
  have hdl := fn11_1
  have hel := fn11_3
  have HL := Lib.hid hl'
  have hlb' : hs'.length ≤ 6 := by omega
  have HB4 := Lib.hid (HB3.out.trans (hb4.mono HB3.out.size))
  have Hg4 := Lib.hid (Hg3.out.up hb4)
  have Hc4 := Lib.hid (Hc3.out.up hb4)
  have Hm4 := Lib.hid (Hm3.out.up hb4)
  have HH4 := Lib.hid (HH3.out.up hb4)
  have hs34 := hb4.size
  clear hok' HH'4_ hsub_ hl' hhs fn11_1 fn11_2 fn11_3 fn11_4 fn11_5 hb4 Hg3 Hc3 Hm3
  go_wp2_with fail
  rename_i Kc hKc
  have HRL := Lib.hid (show List.range' 41 38 = [41, 42, 43, 44, 45, 46, 47, 48, 49, 50, 51, 52, 53, 54, 55, 56, 57, 58, 59, 60, 61, 62, 63, 64, 65, 66, 67, 68, 69, 70, 71, 72, 73, 74, 75, 76, 77, 78] from rfl)
  refine wp_region_partsR 41 38 (by kernel_rfl) [some 41, some 42, some 43, some 44, some 45, some 46, some 47, some 48, some 49, some 50, some 51, some 52, some 53, some 54, some 55, some 56, some 57, some 58, some 59, some 60, some 61, some 62, some 63, some 64, some 65, some 66, some 67, some 68, some 69, some 70, some 71, some 72, some 73, some 74, some 75, some 76, some 77, some 78] (fun jq xq w' => match jq with
   | 0 => xq 41 = .int .i64 0
   | 1 => xq 42 = .bool false
   | 2 => xq 43 = .bool false
   | 3 => xq 44 = .pointer (some ⟨bn11, 0, none⟩)
   | 4 => xq 45 = .int .i64 full
   | 5 => xq 46 = .pointer (some ⟨w2.heap.size + 1, 0, none⟩)
   | 6 => xq 47 = .int .i64 full
   | 7 => xq 48 = .bool false
   | 8 => xq 49 = .bool false
   | 9 => xq 50 = .bool false
   | 10 => xq 51 = .pointer (some ⟨bn11, 1, none⟩)
   | 11 => xq 52 = .int .i64 emp
   | 12 => xq 53 = .pointer (some ⟨w2.heap.size + 1, 1, none⟩)
   | 13 => xq 54 = .int .i64 emp
   | 14 => xq 55 = .bool false
   | 15 => xq 56 = .bool false
   | 16 => xq 57 = .bool false
   | 17 => xq 58 = .pointer (some ⟨bn11, 2, none⟩)
   | 18 => xq 59 = .slice (some ⟨Bn11, 0, none⟩) hs'.length (hs.length + 1)
   | 19 => xq 60 = .int .i64 (hs'.length : Int)
   | 20 => xq 61 = .pointer (some ⟨w2.heap.size + 1, 2, none⟩)
   | 21 => xq 62 = .slice H hs.length q
   | 22 => xq 63 = .int .i64 (hs.length : Int)
   | 23 => xq 64 = .int .i64 ((hs.length : Int) + 1)
   | 24 => xq 65 = .bool false
   | 25 => xq 66 = .bool false
   | 26 => xq 67 = .bool false
   | 27 => xq 68 = .pointer (some ⟨bn11, 2, none⟩)
   | 28 => xq 69 = .slice (some ⟨Bn11, 0, none⟩) hs'.length (hs.length + 1)
   | 29 => xq 70 = .pointer (some ⟨w2.heap.size + 1, 2, none⟩)
   | 30 => xq 71 = .slice H hs.length q
   | 31 => xq 72 = .int .i64 (hs.length : Int)
   | 32 => xq 73 = .slice (some ⟨Bn11, 0, none⟩) hs.length (hs.length + 1)
   | 33 => xq 74 = .pointer (some ⟨w2.heap.size + 1, 2, none⟩)
   | 34 => xq 75 = .slice H hs.length q
   | 35 => xq 76 = .bool true
   | 36 => xq 77 = .bool false
   | 37 => xq 78 = .bool false
   | _ => True) [[41], [42], [43], [44], [45], [46], [47], [48], [49], [50], [51], [52], [53], [54], [55], [56], [57], [58], [59], [60], [61], [62], [63], [64], [65], [66], [67], [68], [69], [70], [71], [72], [73], [74], [75], [76], [77], [78]] [] (fun w' => Below w4.heap.size w4 w') (by kernel_rfl) (by kernel_rfl) (by rfl) ?_ ?_ (fun w' w'' hb h => h.trans (hb.mono h.size)) (Below.refl _ _) ?_ ?_ ?_
  ·intro jq xq xq' wqq h hv
   match jq, h, hv with
   | 0, h, hv => show xq' 41 = .int .i64 0; rw [← h 41 (by decide)]; exact hv
   | 1, h, hv => show xq' 42 = .bool false; rw [← h 42 (by decide)]; exact hv
   | 2, h, hv => show xq' 43 = .bool false; rw [← h 43 (by decide)]; exact hv
   | 3, h, hv => show xq' 44 = .pointer (some ⟨bn11, 0, none⟩); rw [← h 44 (by decide)]; exact hv
   | 4, h, hv => show xq' 45 = .int .i64 full; rw [← h 45 (by decide)]; exact hv
   | 5, h, hv => show xq' 46 = .pointer (some ⟨w2.heap.size + 1, 0, none⟩); rw [← h 46 (by decide)]; exact hv
   | 6, h, hv => show xq' 47 = .int .i64 full; rw [← h 47 (by decide)]; exact hv
   | 7, h, hv => show xq' 48 = .bool false; rw [← h 48 (by decide)]; exact hv
   | 8, h, hv => show xq' 49 = .bool false; rw [← h 49 (by decide)]; exact hv
   | 9, h, hv => show xq' 50 = .bool false; rw [← h 50 (by decide)]; exact hv
   | 10, h, hv => show xq' 51 = .pointer (some ⟨bn11, 1, none⟩); rw [← h 51 (by decide)]; exact hv
   | 11, h, hv => show xq' 52 = .int .i64 emp; rw [← h 52 (by decide)]; exact hv
   | 12, h, hv => show xq' 53 = .pointer (some ⟨w2.heap.size + 1, 1, none⟩); rw [← h 53 (by decide)]; exact hv
   | 13, h, hv => show xq' 54 = .int .i64 emp; rw [← h 54 (by decide)]; exact hv
   | 14, h, hv => show xq' 55 = .bool false; rw [← h 55 (by decide)]; exact hv
   | 15, h, hv => show xq' 56 = .bool false; rw [← h 56 (by decide)]; exact hv
   | 16, h, hv => show xq' 57 = .bool false; rw [← h 57 (by decide)]; exact hv
   | 17, h, hv => show xq' 58 = .pointer (some ⟨bn11, 2, none⟩); rw [← h 58 (by decide)]; exact hv
   | 18, h, hv => show xq' 59 = .slice (some ⟨Bn11, 0, none⟩) hs'.length (hs.length + 1); rw [← h 59 (by decide)]; exact hv
   | 19, h, hv => show xq' 60 = .int .i64 (hs'.length : Int); rw [← h 60 (by decide)]; exact hv
   | 20, h, hv => show xq' 61 = .pointer (some ⟨w2.heap.size + 1, 2, none⟩); rw [← h 61 (by decide)]; exact hv
   | 21, h, hv => show xq' 62 = .slice H hs.length q; rw [← h 62 (by decide)]; exact hv
   | 22, h, hv => show xq' 63 = .int .i64 (hs.length : Int); rw [← h 63 (by decide)]; exact hv
   | 23, h, hv => show xq' 64 = .int .i64 ((hs.length : Int) + 1); rw [← h 64 (by decide)]; exact hv
   | 24, h, hv => show xq' 65 = .bool false; rw [← h 65 (by decide)]; exact hv
   | 25, h, hv => show xq' 66 = .bool false; rw [← h 66 (by decide)]; exact hv
   | 26, h, hv => show xq' 67 = .bool false; rw [← h 67 (by decide)]; exact hv
   | 27, h, hv => show xq' 68 = .pointer (some ⟨bn11, 2, none⟩); rw [← h 68 (by decide)]; exact hv
   | 28, h, hv => show xq' 69 = .slice (some ⟨Bn11, 0, none⟩) hs'.length (hs.length + 1); rw [← h 69 (by decide)]; exact hv
   | 29, h, hv => show xq' 70 = .pointer (some ⟨w2.heap.size + 1, 2, none⟩); rw [← h 70 (by decide)]; exact hv
   | 30, h, hv => show xq' 71 = .slice H hs.length q; rw [← h 71 (by decide)]; exact hv
   | 31, h, hv => show xq' 72 = .int .i64 (hs.length : Int); rw [← h 72 (by decide)]; exact hv
   | 32, h, hv => show xq' 73 = .slice (some ⟨Bn11, 0, none⟩) hs.length (hs.length + 1); rw [← h 73 (by decide)]; exact hv
   | 33, h, hv => show xq' 74 = .pointer (some ⟨w2.heap.size + 1, 2, none⟩); rw [← h 74 (by decide)]; exact hv
   | 34, h, hv => show xq' 75 = .slice H hs.length q; rw [← h 75 (by decide)]; exact hv
   | 35, h, hv => show xq' 76 = .bool true; rw [← h 76 (by decide)]; exact hv
   | 36, h, hv => show xq' 77 = .bool false; rw [← h 77 (by decide)]; exact hv
   | 37, h, hv => show xq' 78 = .bool false; rw [← h 78 (by decide)]; exact hv
   | _ + 38, _, _ => trivial
  ·intro jq xq wqq w' hb' hv
   match jq, hv with
   | 0, hv => exact hv
   | 1, hv => exact hv
   | 2, hv => exact hv
   | 3, hv => exact hv
   | 4, hv => exact hv
   | 5, hv => exact hv
   | 6, hv => exact hv
   | 7, hv => exact hv
   | 8, hv => exact hv
   | 9, hv => exact hv
   | 10, hv => exact hv
   | 11, hv => exact hv
   | 12, hv => exact hv
   | 13, hv => exact hv
   | 14, hv => exact hv
   | 15, hv => exact hv
   | 16, hv => exact hv
   | 17, hv => exact hv
   | 18, hv => exact hv
   | 19, hv => exact hv
   | 20, hv => exact hv
   | 21, hv => exact hv
   | 22, hv => exact hv
   | 23, hv => exact hv
   | 24, hv => exact hv
   | 25, hv => exact hv
   | 26, hv => exact hv
   | 27, hv => exact hv
   | 28, hv => exact hv
   | 29, hv => exact hv
   | 30, hv => exact hv
   | 31, hv => exact hv
   | 32, hv => exact hv
   | 33, hv => exact hv
   | 34, hv => exact hv
   | 35, hv => exact hv
   | 36, hv => exact hv
   | 37, hv => exact hv
   | _ + 38, _ => trivial
  ·intro jq hj
   match jq, hj with
   | 0, hj => exact absurd hj (by decide)
   | 1, hj => exact absurd hj (by decide)
   | 2, hj => exact absurd hj (by decide)
   | 3, hj => exact absurd hj (by decide)
   | 4, hj => exact absurd hj (by decide)
   | 5, hj => exact absurd hj (by decide)
   | 6, hj => exact absurd hj (by decide)
   | 7, hj => exact absurd hj (by decide)
   | 8, hj => exact absurd hj (by decide)
   | 9, hj => exact absurd hj (by decide)
   | 10, hj => exact absurd hj (by decide)
   | 11, hj => exact absurd hj (by decide)
   | 12, hj => exact absurd hj (by decide)
   | 13, hj => exact absurd hj (by decide)
   | 14, hj => exact absurd hj (by decide)
   | 15, hj => exact absurd hj (by decide)
   | 16, hj => exact absurd hj (by decide)
   | 17, hj => exact absurd hj (by decide)
   | 18, hj => exact absurd hj (by decide)
   | 19, hj => exact absurd hj (by decide)
   | 20, hj => exact absurd hj (by decide)
   | 21, hj => exact absurd hj (by decide)
   | 22, hj => exact absurd hj (by decide)
   | 23, hj => exact absurd hj (by decide)
   | 24, hj => exact absurd hj (by decide)
   | 25, hj => exact absurd hj (by decide)
   | 26, hj => exact absurd hj (by decide)
   | 27, hj => exact absurd hj (by decide)
   | 28, hj => exact absurd hj (by decide)
   | 29, hj => exact absurd hj (by decide)
   | 30, hj => exact absurd hj (by decide)
   | 31, hj => exact absurd hj (by decide)
   | 32, hj => exact absurd hj (by decide)
   | 33, hj => exact absurd hj (by decide)
   | 34, hj => exact absurd hj (by decide)
   | 35, hj => exact absurd hj (by decide)
   | 36, hj => exact absurd hj (by decide)
   | 37, hj => exact absurd hj (by decide)
   | _ + 38, _ => trivial
  ·refine ⟨?_, ?_, ?_, ?_, ?_, ?_, ?_, ?_, ?_, ?_, ?_, ?_, ?_, ?_, ?_, ?_, ?_, ?_, ?_, ?_, ?_, ?_, ?_, ?_, ?_, ?_, ?_, ?_, ?_, ?_, ?_, ?_, ?_, ?_, ?_, ?_, ?_, ?_, trivial⟩
   ·intro xq w5 hb5 hx K hK0
    have hK := fun v w' hb => hK0 v w' (.inl hb)
    clear hx hKc hK0
    simp only [runOf, setSlot, HRL.out, sr, Nat.reduceAdd, Nat.reduceEqDiff, if_true, if_false] at hK ⊢
    go_wp2_with (fail)
    exact hK _ _ (Below.refl _ _) rfl
   ·intro xq w5 hb5 hx K hK0
    have hK := fun v w' hb => hK0 v w' (.inl hb)
    have e41 : xq 41 = .int .i64 0 := hx 0 (by rfl) (by rfl)
    clear hx hKc hK0
    simp only [runOf, setSlot, HRL.out, sr, Nat.reduceAdd, Nat.reduceEqDiff, if_true, if_false] at hK ⊢
    simp only [e41] at hK ⊢
    clear e41
    go_wp2_with (fail)
    exact hK _ _ (Below.refl _ _) (by first | rfl | simp)
   ·intro xq w5 hb5 hx K hK0
    have hK := fun v w' hb => hK0 v w' (.inl hb)
    have e42 : xq 42 = .bool false := hx 1 (by rfl) (by rfl)
    clear hx hKc hK0
    simp only [runOf, setSlot, HRL.out, sr, Nat.reduceAdd, Nat.reduceEqDiff, if_true, if_false] at hK ⊢
    simp only [e42] at hK ⊢
    clear e42
    go_wp2_with (fail)
    exact hK _ _ (Below.refl _ _) rfl
   ·intro xq w5 hb5 hx K hK0
    have hK := fun v w' hb => hK0 v w' (.inl hb)
    have e43 : xq 43 = .bool false := hx 2 (by rfl) (by rfl)
    clear hx hKc hK0
    simp only [runOf, setSlot, HRL.out, sr, Nat.reduceAdd, Nat.reduceEqDiff, if_true, if_false] at hK ⊢
    simp only [e43] at hK ⊢
    clear e43
    go_wp2_with (fail)
    exact hK _ _ (Below.refl _ _) rfl
   ·intro xq w5 hb5 hx K hK0
    have hK := fun v w' hb => hK0 v w' (.inl hb)
    have e43 : xq 43 = .bool false := hx 2 (by rfl) (by rfl)
    have e44 : xq 44 = .pointer (some ⟨bn11, 0, none⟩) := hx 3 (by rfl) (by rfl)
    clear hx hKc hK0
    have kq : w5.cell? ⟨bn11, 0, none⟩ = some (.int .i64 full) := (Hd4.out.up hb5).cell 0
    simp only [runOf, setSlot, HRL.out, sr, Nat.reduceAdd, Nat.reduceEqDiff, if_true, if_false] at hK ⊢
    simp only [e43, e44] at hK ⊢
    clear e43 e44
    go_wp2_with (fail)
    exact hK _ _ (Below.refl _ _) rfl
   ·intro xq w5 hb5 hx K hK0
    have hK := fun v w' hb => hK0 v w' (.inl hb)
    have e43 : xq 43 = .bool false := hx 2 (by rfl) (by rfl)
    clear hx hKc hK0
    simp only [runOf, setSlot, HRL.out, sr, Nat.reduceAdd, Nat.reduceEqDiff, if_true, if_false] at hK ⊢
    simp only [e43] at hK ⊢
    clear e43
    go_wp2_with (fail)
    exact hK _ _ (Below.refl _ _) rfl
   ·intro xq w5 hb5 hx K hK0
    have hK := fun v w' hb => hK0 v w' (.inl hb)
    have e43 : xq 43 = .bool false := hx 2 (by rfl) (by rfl)
    have e46 : xq 46 = .pointer (some ⟨w2.heap.size + 1, 0, none⟩) := hx 5 (by rfl) (by rfl)
    clear hx hKc hK0
    have kq : w5.cell? ⟨w2.heap.size + 1, 0, none⟩ = some (.int .i64 full) := (Hc4.out.up hb5).cell 0
    simp only [runOf, setSlot, HRL.out, sr, Nat.reduceAdd, Nat.reduceEqDiff, if_true, if_false] at hK ⊢
    simp only [e43, e46] at hK ⊢
    clear e43 e46
    go_wp2_with (fail)
    exact hK _ _ (Below.refl _ _) rfl
   ·intro xq w5 hb5 hx K hK0
    have hK := fun v w' hb => hK0 v w' (.inl hb)
    have e43 : xq 43 = .bool false := hx 2 (by rfl) (by rfl)
    have e45 : xq 45 = .int .i64 full := hx 4 (by rfl) (by rfl)
    have e47 : xq 47 = .int .i64 full := hx 6 (by rfl) (by rfl)
    clear hx hKc hK0
    simp only [runOf, setSlot, HRL.out, sr, Nat.reduceAdd, Nat.reduceEqDiff, if_true, if_false] at hK ⊢
    simp only [e43, e45, e47] at hK ⊢
    clear e43 e45 e47
    go_wp2_with (fail)
    exact hK _ _ (Below.refl _ _) (by first | rfl | simp)
   ·intro xq w5 hb5 hx K hK0
    have hK := fun v w' hb => hK0 v w' (.inl hb)
    have e43 : xq 43 = .bool false := hx 2 (by rfl) (by rfl)
    have e48 : xq 48 = .bool false := hx 7 (by rfl) (by rfl)
    clear hx hKc hK0
    simp only [runOf, setSlot, HRL.out, sr, Nat.reduceAdd, Nat.reduceEqDiff, if_true, if_false] at hK ⊢
    simp only [e43, e48] at hK ⊢
    clear e43 e48
    go_wp2_with (fail)
    exact hK _ _ (Below.refl _ _) rfl
   ·intro xq w5 hb5 hx K hK0
    have hK := fun v w' hb => hK0 v w' (.inl hb)
    have e49 : xq 49 = .bool false := hx 8 (by rfl) (by rfl)
    clear hx hKc hK0
    simp only [runOf, setSlot, HRL.out, sr, Nat.reduceAdd, Nat.reduceEqDiff, if_true, if_false] at hK ⊢
    simp only [e49] at hK ⊢
    clear e49
    go_wp2_with (fail)
    exact hK _ _ (Below.refl _ _) rfl
   ·intro xq w5 hb5 hx K hK0
    have hK := fun v w' hb => hK0 v w' (.inl hb)
    have e50 : xq 50 = .bool false := hx 9 (by rfl) (by rfl)
    clear hx hKc hK0
    simp only [runOf, setSlot, HRL.out, sr, Nat.reduceAdd, Nat.reduceEqDiff, if_true, if_false] at hK ⊢
    simp only [e50] at hK ⊢
    clear e50
    go_wp2_with (fail)
    exact hK _ _ (Below.refl _ _) rfl
   ·intro xq w5 hb5 hx K hK0
    have hK := fun v w' hb => hK0 v w' (.inl hb)
    have e50 : xq 50 = .bool false := hx 9 (by rfl) (by rfl)
    have e51 : xq 51 = .pointer (some ⟨bn11, 1, none⟩) := hx 10 (by rfl) (by rfl)
    clear hx hKc hK0
    have kq : w5.cell? ⟨bn11, 1, none⟩ = some (.int .i64 emp) := (Hd4.out.up hb5).cell 1
    simp only [runOf, setSlot, HRL.out, sr, Nat.reduceAdd, Nat.reduceEqDiff, if_true, if_false] at hK ⊢
    simp only [e50, e51] at hK ⊢
    clear e50 e51
    go_wp2_with (fail)
    exact hK _ _ (Below.refl _ _) rfl
   ·intro xq w5 hb5 hx K hK0
    have hK := fun v w' hb => hK0 v w' (.inl hb)
    have e50 : xq 50 = .bool false := hx 9 (by rfl) (by rfl)
    clear hx hKc hK0
    simp only [runOf, setSlot, HRL.out, sr, Nat.reduceAdd, Nat.reduceEqDiff, if_true, if_false] at hK ⊢
    simp only [e50] at hK ⊢
    clear e50
    go_wp2_with (fail)
    exact hK _ _ (Below.refl _ _) rfl
   ·intro xq w5 hb5 hx K hK0
    have hK := fun v w' hb => hK0 v w' (.inl hb)
    have e50 : xq 50 = .bool false := hx 9 (by rfl) (by rfl)
    have e53 : xq 53 = .pointer (some ⟨w2.heap.size + 1, 1, none⟩) := hx 12 (by rfl) (by rfl)
    clear hx hKc hK0
    have kq : w5.cell? ⟨w2.heap.size + 1, 1, none⟩ = some (.int .i64 emp) := (Hc4.out.up hb5).cell 1
    simp only [runOf, setSlot, HRL.out, sr, Nat.reduceAdd, Nat.reduceEqDiff, if_true, if_false] at hK ⊢
    simp only [e50, e53] at hK ⊢
    clear e50 e53
    go_wp2_with (fail)
    exact hK _ _ (Below.refl _ _) rfl
   ·intro xq w5 hb5 hx K hK0
    have hK := fun v w' hb => hK0 v w' (.inl hb)
    have e50 : xq 50 = .bool false := hx 9 (by rfl) (by rfl)
    have e52 : xq 52 = .int .i64 emp := hx 11 (by rfl) (by rfl)
    have e54 : xq 54 = .int .i64 emp := hx 13 (by rfl) (by rfl)
    clear hx hKc hK0
    simp only [runOf, setSlot, HRL.out, sr, Nat.reduceAdd, Nat.reduceEqDiff, if_true, if_false] at hK ⊢
    simp only [e50, e52, e54] at hK ⊢
    clear e50 e52 e54
    go_wp2_with (fail)
    exact hK _ _ (Below.refl _ _) (by first | rfl | simp)
   ·intro xq w5 hb5 hx K hK0
    have hK := fun v w' hb => hK0 v w' (.inl hb)
    have e50 : xq 50 = .bool false := hx 9 (by rfl) (by rfl)
    have e55 : xq 55 = .bool false := hx 14 (by rfl) (by rfl)
    clear hx hKc hK0
    simp only [runOf, setSlot, HRL.out, sr, Nat.reduceAdd, Nat.reduceEqDiff, if_true, if_false] at hK ⊢
    simp only [e50, e55] at hK ⊢
    clear e50 e55
    go_wp2_with (fail)
    exact hK _ _ (Below.refl _ _) rfl
   ·intro xq w5 hb5 hx K hK0
    have hK := fun v w' hb => hK0 v w' (.inl hb)
    have e56 : xq 56 = .bool false := hx 15 (by rfl) (by rfl)
    clear hx hKc hK0
    simp only [runOf, setSlot, HRL.out, sr, Nat.reduceAdd, Nat.reduceEqDiff, if_true, if_false] at hK ⊢
    simp only [e56] at hK ⊢
    clear e56
    go_wp2_with (fail)
    exact hK _ _ (Below.refl _ _) rfl
   ·intro xq w5 hb5 hx K hK0
    have hK := fun v w' hb => hK0 v w' (.inl hb)
    have e57 : xq 57 = .bool false := hx 16 (by rfl) (by rfl)
    clear hx hKc hK0
    simp only [runOf, setSlot, HRL.out, sr, Nat.reduceAdd, Nat.reduceEqDiff, if_true, if_false] at hK ⊢
    simp only [e57] at hK ⊢
    clear e57
    go_wp2_with (fail)
    exact hK _ _ (Below.refl _ _) rfl
   ·intro xq w5 hb5 hx K hK0
    have hK := fun v w' hb => hK0 v w' (.inl hb)
    have e57 : xq 57 = .bool false := hx 16 (by rfl) (by rfl)
    have e58 : xq 58 = .pointer (some ⟨bn11, 2, none⟩) := hx 17 (by rfl) (by rfl)
    clear hx hKc hK0
    have kq : w5.cell? ⟨bn11, 2, none⟩ = some (.slice (some ⟨Bn11, 0, none⟩) hs'.length (hs.length + 1)) := (Hd4.out.up hb5).cell 2
    simp only [runOf, setSlot, HRL.out, sr, Nat.reduceAdd, Nat.reduceEqDiff, if_true, if_false] at hK ⊢
    simp only [e57, e58] at hK ⊢
    clear e57 e58
    go_wp2_with (fail)
    exact hK _ _ (Below.refl _ _) rfl
   ·intro xq w5 hb5 hx K hK0
    have hK := fun v w' hb => hK0 v w' (.inl hb)
    have e57 : xq 57 = .bool false := hx 16 (by rfl) (by rfl)
    have e59 : xq 59 = .slice (some ⟨Bn11, 0, none⟩) hs'.length (hs.length + 1) := hx 18 (by rfl) (by rfl)
    clear hx hKc hK0
    simp only [runOf, setSlot, HRL.out, sr, Nat.reduceAdd, Nat.reduceEqDiff, if_true, if_false] at hK ⊢
    simp only [e57, e59] at hK ⊢
    clear e57 e59
    go_wp2_with (fail)
    exact hK _ _ (Below.refl _ _) rfl
   ·intro xq w5 hb5 hx K hK0
    have hK := fun v w' hb => hK0 v w' (.inl hb)
    have e57 : xq 57 = .bool false := hx 16 (by rfl) (by rfl)
    clear hx hKc hK0
    simp only [runOf, setSlot, HRL.out, sr, Nat.reduceAdd, Nat.reduceEqDiff, if_true, if_false] at hK ⊢
    simp only [e57] at hK ⊢
    clear e57
    go_wp2_with (fail)
    exact hK _ _ (Below.refl _ _) rfl
   ·intro xq w5 hb5 hx K hK0
    have hK := fun v w' hb => hK0 v w' (.inl hb)
    have e57 : xq 57 = .bool false := hx 16 (by rfl) (by rfl)
    have e61 : xq 61 = .pointer (some ⟨w2.heap.size + 1, 2, none⟩) := hx 20 (by rfl) (by rfl)
    clear hx hKc hK0
    have kq : w5.cell? ⟨w2.heap.size + 1, 2, none⟩ = some (.slice H hs.length q) := (Hc4.out.up hb5).cell 2
    simp only [runOf, setSlot, HRL.out, sr, Nat.reduceAdd, Nat.reduceEqDiff, if_true, if_false] at hK ⊢
    simp only [e57, e61] at hK ⊢
    clear e57 e61
    go_wp2_with (fail)
    exact hK _ _ (Below.refl _ _) rfl
   ·intro xq w5 hb5 hx K hK0
    have hK := fun v w' hb => hK0 v w' (.inl hb)
    have e57 : xq 57 = .bool false := hx 16 (by rfl) (by rfl)
    have e62 : xq 62 = .slice H hs.length q := hx 21 (by rfl) (by rfl)
    clear hx hKc hK0
    simp only [runOf, setSlot, HRL.out, sr, Nat.reduceAdd, Nat.reduceEqDiff, if_true, if_false] at hK ⊢
    simp only [e57, e62] at hK ⊢
    clear e57 e62
    go_wp2_with (fail)
    exact hK _ _ (Below.refl _ _) rfl
   ·intro xq w5 hb5 hx K hK0
    have hK := fun v w' hb => hK0 v w' (.inl hb)
    have e57 : xq 57 = .bool false := hx 16 (by rfl) (by rfl)
    have e63 : xq 63 = .int .i64 (hs.length : Int) := hx 22 (by rfl) (by rfl)
    clear hx hKc hK0
    simp only [runOf, setSlot, HRL.out, sr, Nat.reduceAdd, Nat.reduceEqDiff, if_true, if_false] at hK ⊢
    simp only [e57, e63] at hK ⊢
    clear e57 e63
    go_wp2_with (fail)
    exact hK _ _ (Below.refl _ _) rfl
   ·intro xq w5 hb5 hx K hK0
    have hK := fun v w' hb => hK0 v w' (.inl hb)
    have e57 : xq 57 = .bool false := hx 16 (by rfl) (by rfl)
    have e60 : xq 60 = .int .i64 (hs'.length : Int) := hx 19 (by rfl) (by rfl)
    have e64 : xq 64 = .int .i64 ((hs.length : Int) + 1) := hx 23 (by rfl) (by rfl)
    clear hx hKc hK0
    simp only [runOf, setSlot, HRL.out, sr, Nat.reduceAdd, Nat.reduceEqDiff, if_true, if_false] at hK ⊢
    simp only [e57, e60, e64] at hK ⊢
    clear e57 e60 e64
    go_wp2_with (fail)
    exact hK _ _ (Below.refl _ _) (by have hq := HL.out; first | (simp; omega) | (simp [hq]; done))
   ·intro xq w5 hb5 hx K hK0
    have hK := fun v w' hb => hK0 v w' (.inl hb)
    have e57 : xq 57 = .bool false := hx 16 (by rfl) (by rfl)
    have e65 : xq 65 = .bool false := hx 24 (by rfl) (by rfl)
    clear hx hKc hK0
    simp only [runOf, setSlot, HRL.out, sr, Nat.reduceAdd, Nat.reduceEqDiff, if_true, if_false] at hK ⊢
    simp only [e57, e65] at hK ⊢
    clear e57 e65
    go_wp2_with (fail)
    exact hK _ _ (Below.refl _ _) rfl
   ·intro xq w5 hb5 hx K hK0
    have hK := fun v w' hb => hK0 v w' (.inl hb)
    have e66 : xq 66 = .bool false := hx 25 (by rfl) (by rfl)
    clear hx hKc hK0
    simp only [runOf, setSlot, HRL.out, sr, Nat.reduceAdd, Nat.reduceEqDiff, if_true, if_false] at hK ⊢
    simp only [e66] at hK ⊢
    clear e66
    go_wp2_with (fail)
    exact hK _ _ (Below.refl _ _) rfl
   ·intro xq w5 hb5 hx K hK0
    have hK := fun v w' hb => hK0 v w' (.inl hb)
    have e67 : xq 67 = .bool false := hx 26 (by rfl) (by rfl)
    clear hx hKc hK0
    simp only [runOf, setSlot, HRL.out, sr, Nat.reduceAdd, Nat.reduceEqDiff, if_true, if_false] at hK ⊢
    simp only [e67] at hK ⊢
    clear e67
    go_wp2_with (fail)
    exact hK _ _ (Below.refl _ _) rfl
   ·intro xq w5 hb5 hx K hK0
    have hK := fun v w' hb => hK0 v w' (.inl hb)
    have e67 : xq 67 = .bool false := hx 26 (by rfl) (by rfl)
    have e68 : xq 68 = .pointer (some ⟨bn11, 2, none⟩) := hx 27 (by rfl) (by rfl)
    clear hx hKc hK0
    have kq : w5.cell? ⟨bn11, 2, none⟩ = some (.slice (some ⟨Bn11, 0, none⟩) hs'.length (hs.length + 1)) := (Hd4.out.up hb5).cell 2
    simp only [runOf, setSlot, HRL.out, sr, Nat.reduceAdd, Nat.reduceEqDiff, if_true, if_false] at hK ⊢
    simp only [e67, e68] at hK ⊢
    clear e67 e68
    go_wp2_with (fail)
    exact hK _ _ (Below.refl _ _) rfl
   ·intro xq w5 hb5 hx K hK0
    have hK := fun v w' hb => hK0 v w' (.inl hb)
    have e67 : xq 67 = .bool false := hx 26 (by rfl) (by rfl)
    clear hx hKc hK0
    simp only [runOf, setSlot, HRL.out, sr, Nat.reduceAdd, Nat.reduceEqDiff, if_true, if_false] at hK ⊢
    simp only [e67] at hK ⊢
    clear e67
    go_wp2_with (fail)
    exact hK _ _ (Below.refl _ _) rfl
   ·intro xq w5 hb5 hx K hK0
    have hK := fun v w' hb => hK0 v w' (.inl hb)
    have e67 : xq 67 = .bool false := hx 26 (by rfl) (by rfl)
    have e70 : xq 70 = .pointer (some ⟨w2.heap.size + 1, 2, none⟩) := hx 29 (by rfl) (by rfl)
    clear hx hKc hK0
    have kq : w5.cell? ⟨w2.heap.size + 1, 2, none⟩ = some (.slice H hs.length q) := (Hc4.out.up hb5).cell 2
    simp only [runOf, setSlot, HRL.out, sr, Nat.reduceAdd, Nat.reduceEqDiff, if_true, if_false] at hK ⊢
    simp only [e67, e70] at hK ⊢
    clear e67 e70
    go_wp2_with (fail)
    exact hK _ _ (Below.refl _ _) rfl
   ·intro xq w5 hb5 hx K hK0
    have hK := fun v w' hb => hK0 v w' (.inl hb)
    have e67 : xq 67 = .bool false := hx 26 (by rfl) (by rfl)
    have e71 : xq 71 = .slice H hs.length q := hx 30 (by rfl) (by rfl)
    clear hx hKc hK0
    simp only [runOf, setSlot, HRL.out, sr, Nat.reduceAdd, Nat.reduceEqDiff, if_true, if_false] at hK ⊢
    simp only [e67, e71] at hK ⊢
    clear e67 e71
    go_wp2_with (fail)
    exact hK _ _ (Below.refl _ _) rfl
   ·intro xq w5 hb5 hx K hK0
    have hK := fun v w' hb => hK0 v w' (.inl hb)
    have e67 : xq 67 = .bool false := hx 26 (by rfl) (by rfl)
    have e69 : xq 69 = .slice (some ⟨Bn11, 0, none⟩) hs'.length (hs.length + 1) := hx 28 (by rfl) (by rfl)
    have e72 : xq 72 = .int .i64 (hs.length : Int) := hx 31 (by rfl) (by rfl)
    clear hx hKc hK0
    have hq2 : hs.length ≤ hs.length + 1 := by omega
    have hq3 : (0 : Int) ≤ hs.length := by omega
    have hq4 : (hs.length : Int) ≤ ((hs.length + 1 : Nat) : Int) := by omega
    simp only [runOf, setSlot, HRL.out, sr, Nat.reduceAdd, Nat.reduceEqDiff, if_true, if_false] at hK ⊢
    simp only [e67, e69, e72] at hK ⊢
    clear e67 e69 e72
    go_wp2_with (fail)
    exact hK _ _ (Below.refl _ _) rfl
   ·intro xq w5 hb5 hx K hK0
    have hK := fun v w' hb => hK0 v w' (.inl hb)
    have e67 : xq 67 = .bool false := hx 26 (by rfl) (by rfl)
    clear hx hKc hK0
    simp only [runOf, setSlot, HRL.out, sr, Nat.reduceAdd, Nat.reduceEqDiff, if_true, if_false] at hK ⊢
    simp only [e67] at hK ⊢
    clear e67
    go_wp2_with (fail)
    exact hK _ _ (Below.refl _ _) rfl
   ·intro xq w5 hb5 hx K hK0
    have hK := fun v w' hb => hK0 v w' (.inl hb)
    have e67 : xq 67 = .bool false := hx 26 (by rfl) (by rfl)
    have e74 : xq 74 = .pointer (some ⟨w2.heap.size + 1, 2, none⟩) := hx 33 (by rfl) (by rfl)
    clear hx hKc hK0
    have kq : w5.cell? ⟨w2.heap.size + 1, 2, none⟩ = some (.slice H hs.length q) := (Hc4.out.up hb5).cell 2
    simp only [runOf, setSlot, HRL.out, sr, Nat.reduceAdd, Nat.reduceEqDiff, if_true, if_false] at hK ⊢
    simp only [e67, e74] at hK ⊢
    clear e67 e74
    go_wp2_with (fail)
    exact hK _ _ (Below.refl _ _) rfl
   ·intro xq w5 hb5 hx K hK0
    have hK := fun v w' hb => hK0 v w' (.inl hb)
    have e67 : xq 67 = .bool false := hx 26 (by rfl) (by rfl)
    have e73 : xq 73 = .slice (some ⟨Bn11, 0, none⟩) hs.length (hs.length + 1) := hx 32 (by rfl) (by rfl)
    have e75 : xq 75 = .slice H hs.length q := hx 34 (by rfl) (by rfl)
    clear hx hKc hK0
    simp only [runOf, setSlot, HRL.out, sr, Nat.reduceAdd, Nat.reduceEqDiff, if_true, if_false] at hK ⊢
    simp only [e67, e73, e75] at hK ⊢
    clear e67 e73 e75
    go_wp2_with (go_at_call 70; refine (equalHand_same _ H _ q hs _ (HHp4.out.up hb5) (HH4.out.up hb5) hhl').mono ?_; rintro e w2_ ⟨rfl, hb_⟩)
    exact hK _ _ hb_ rfl
   ·intro xq w5 hb5 hx K hK0
    have hK := fun v w' hb => hK0 v w' (.inl hb)
    have e67 : xq 67 = .bool false := hx 26 (by rfl) (by rfl)
    have e76 : xq 76 = .bool true := hx 35 (by rfl) (by rfl)
    clear hx hKc hK0
    simp only [runOf, setSlot, HRL.out, sr, Nat.reduceAdd, Nat.reduceEqDiff, if_true, if_false] at hK ⊢
    simp only [e67, e76] at hK ⊢
    clear e67 e76
    go_wp2_with (fail)
    exact hK _ _ (Below.refl _ _) rfl
   ·intro xq w5 hb5 hx K hK0
    have hK := fun v w' hb => hK0 v w' (.inl hb)
    have e67 : xq 67 = .bool false := hx 26 (by rfl) (by rfl)
    have e77 : xq 77 = .bool false := hx 36 (by rfl) (by rfl)
    clear hx hKc hK0
    simp only [runOf, setSlot, HRL.out, sr, Nat.reduceAdd, Nat.reduceEqDiff, if_true, if_false] at hK ⊢
    simp only [e67, e77] at hK ⊢
    clear e67 e77
    go_wp2_with (fail)
    exact hK _ _ (Below.refl _ _) rfl
  ·intro xq w5 hb5 hx
   have e41 : xq 41 = .int .i64 0 := hx 0 (by decide)
   have e42 : xq 42 = .bool false := hx 1 (by decide)
   have e43 : xq 43 = .bool false := hx 2 (by decide)
   have e44 : xq 44 = .pointer (some ⟨bn11, 0, none⟩) := hx 3 (by decide)
   have e45 : xq 45 = .int .i64 full := hx 4 (by decide)
   have e46 : xq 46 = .pointer (some ⟨w2.heap.size + 1, 0, none⟩) := hx 5 (by decide)
   have e47 : xq 47 = .int .i64 full := hx 6 (by decide)
   have e48 : xq 48 = .bool false := hx 7 (by decide)
   have e49 : xq 49 = .bool false := hx 8 (by decide)
   have e50 : xq 50 = .bool false := hx 9 (by decide)
   have e51 : xq 51 = .pointer (some ⟨bn11, 1, none⟩) := hx 10 (by decide)
   have e52 : xq 52 = .int .i64 emp := hx 11 (by decide)
   have e53 : xq 53 = .pointer (some ⟨w2.heap.size + 1, 1, none⟩) := hx 12 (by decide)
   have e54 : xq 54 = .int .i64 emp := hx 13 (by decide)
   have e55 : xq 55 = .bool false := hx 14 (by decide)
   have e56 : xq 56 = .bool false := hx 15 (by decide)
   have e57 : xq 57 = .bool false := hx 16 (by decide)
   have e58 : xq 58 = .pointer (some ⟨bn11, 2, none⟩) := hx 17 (by decide)
   have e59 : xq 59 = .slice (some ⟨Bn11, 0, none⟩) hs'.length (hs.length + 1) := hx 18 (by decide)
   have e60 : xq 60 = .int .i64 (hs'.length : Int) := hx 19 (by decide)
   have e61 : xq 61 = .pointer (some ⟨w2.heap.size + 1, 2, none⟩) := hx 20 (by decide)
   have e62 : xq 62 = .slice H hs.length q := hx 21 (by decide)
   have e63 : xq 63 = .int .i64 (hs.length : Int) := hx 22 (by decide)
   have e64 : xq 64 = .int .i64 ((hs.length : Int) + 1) := hx 23 (by decide)
   have e65 : xq 65 = .bool false := hx 24 (by decide)
   have e66 : xq 66 = .bool false := hx 25 (by decide)
   have e67 : xq 67 = .bool false := hx 26 (by decide)
   have e68 : xq 68 = .pointer (some ⟨bn11, 2, none⟩) := hx 27 (by decide)
   have e69 : xq 69 = .slice (some ⟨Bn11, 0, none⟩) hs'.length (hs.length + 1) := hx 28 (by decide)
   have e70 : xq 70 = .pointer (some ⟨w2.heap.size + 1, 2, none⟩) := hx 29 (by decide)
   have e71 : xq 71 = .slice H hs.length q := hx 30 (by decide)
   have e72 : xq 72 = .int .i64 (hs.length : Int) := hx 31 (by decide)
   have e73 : xq 73 = .slice (some ⟨Bn11, 0, none⟩) hs.length (hs.length + 1) := hx 32 (by decide)
   have e74 : xq 74 = .pointer (some ⟨w2.heap.size + 1, 2, none⟩) := hx 33 (by decide)
   have e75 : xq 75 = .slice H hs.length q := hx 34 (by decide)
   have e76 : xq 76 = .bool true := hx 35 (by decide)
   have e77 : xq 77 = .bool false := hx 36 (by decide)
   have e78 : xq 78 = .bool false := hx 37 (by decide)
   clear hx
   simp only [runOf, setSlot, HRL.out, sr, Nat.reduceAdd, Nat.reduceEqDiff, if_true, if_false]
   simp only [e41, e42, e43, e44, e45, e46, e47, e48, e49, e50, e51, e52, e53, e54, e55, e56, e57, e58, e59, e60, e61, e62, e63, e64, e65, e66, e67, e68, e69, e70, e71, e72, e73, e74, e75, e76, e77, e78]
   clear e41 e42 e43 e44 e45 e46 e47 e48 e49 e50 e51 e52 e53 e54 e55 e56 e57 e58 e59 e60 e61 e62 e63 e64 e65 e66 e67 e68 e69 e70 e71 e72 e73 e74 e75 e76 e77 e78
   refine hKc _ _ ?_
   have Hg5 := Lib.hid (Hg4.out.up hb5)
   have Hc5 := Lib.hid (Hc4.out.up hb5)
   have Hm5 := Lib.hid (Hm4.out.up hb5)
   have Hd5 := Lib.hid (Hd4.out.up hb5)
   have HH5 := Lib.hid (HH4.out.up hb5)
   have HH'5 := Lib.hid (HH'4.out.up hb5)
   have HB5 := Lib.hid (HB4.out.trans (hb5.mono HB4.out.size))
   have HX5 := Lib.hid hb5
   have hs5 := HB5.out.size
   have hs45 := hb5.size
   clear hb5 Hg4 Hc4 Hm4 Hd4 HHp4
   have hx := bounds_nonempty HOK.out.mix.sum HOK.out.has
   have hx' := bounds_nonempty HOK'.out.mix.sum HOK'.out.has
   have HE' := Lib.hid (HOK'.out.both hgl4 hlb')
   have hhl2 : hs'.length ≤ 1000 := by omega
   have HG5 := Lib.hid (HG.out.up HB5.out)
   obtain ⟨B, hBx⟩ : ∃ z, boundsOf miss (fun _ => true) hs = z := ⟨_, rfl⟩
   obtain ⟨B', hBx'⟩ : ∃ z, boundsOf miss (fun _ => true) hs' = z := ⟨_, rfl⟩
   have hsb := HSUB.out
   rw [hBx, hBx'] at hsb
   have HX := Lib.hid hx
   have HX' := Lib.hid hx'
   have HBE : Hid (B.empty = false) := Lib.hid (hBx ▸ hx)
   have HBE' : Hid (B'.empty = false) := Lib.hid (hBx' ▸ hx')
   have HBK : Hid B.ok := Lib.hid (hBx ▸ bounds_ok miss _ hs)
   have HBK' : Hid B'.ok := Lib.hid (hBx' ▸ bounds_ok miss _ hs')
   have HBT : Hid B.Tight := Lib.hid (hBx ▸ bounds_tight hx)
   have HBT' : Hid B'.Tight := Lib.hid (hBx' ▸ bounds_tight hx')
   have HBM' : Hid (B'.has m0 m1 m2 m3) := Lib.hid (hBx' ▸ HOK'.out.has)
   have HSB := Lib.hid hsb
   have HBX := Lib.hid hBx
   have HBX' := Lib.hid hBx'
   clear hx hx' hBx hBx' hsb HSUB
   obtain ⟨can, hcan⟩ : ∃ z, canOf B gs = z := ⟨_, rfl⟩
   obtain ⟨can', hcan'⟩ : ∃ z, canOf B' gs = z := ⟨_, rfl⟩
   have hcl : can.length ≤ 5 := by have := canOf_len B gs; rw [hcan] at this; omega
   have hcl' : can'.length ≤ 5 := by have := canOf_len B' gs; rw [hcan'] at this; omega
   have hcs : ∀ n ∈ can', n ∈ can := fun n hn => by rw [← hcan'] at hn; rw [← hcan]; exact sub_can HSB.out HBK'.out HBK.out hn
   have HCS := Lib.hid hcs
   have HCC : Hid (∀ n ∈ can', can.contains n = true) := Lib.hid (fun n hn => List.contains_iff_mem.2 (hcs n hn))
   have HCAN := Lib.hid hcan
   have HCAN' := Lib.hid hcan'
   clear hcan hcan' hcs
   obtain ⟨kg0, kg1, kg2⟩ := Hg5.out.c3
   have lt_g : w2.heap.size < w5.heap.size := Hg5.out.lt
   obtain ⟨kc0, kc1, kc2⟩ := Hc5.out.c3
   have lt_c : w2.heap.size + 1 < w5.heap.size := Hc5.out.lt
   go_wp2_with fail
   refine (Bounds_ok err miss full emp G H d q gs hs _ (HG5.out.up zg) hgl' (HH5.out.up zg) hhl' HE.out HX.out).mono ?_
   rw [HBX.out]
   rintro e w6 ⟨rfl, hb6⟩
   have Hg6 := Lib.hid (Holds.up (by have h := Hg5.out; exact zp4 : Holds _ (w2.heap.size) 24 #[.int .i64 err, .int .i64 miss, .slice G gs.length d]) hb6)
   have Hc6 := Lib.hid (Holds.up (by have h := Hc5.out; exact zp4 : Holds _ (w2.heap.size + 1) 27 #[.int .i64 full, .int .i64 emp, .slice H hs.length q]) hb6)
   have Hm6 := Lib.hid (Holds.up (by have h := Hm5.out; exact zp4 : Holds _ (w2.heap.size + 1 + 1) 28 #[.int .i64 m0, .int .i64 m1, .int .i64 m2, .int .i64 m3]) hb6)
   have Hd6 := Lib.hid (Holds.up (by have h := Hd5.out; exact zp4 : Holds _ (bn11) 27 #[.int .i64 full, .int .i64 emp, .slice (some ⟨Bn11, 0, none⟩) hs'.length (hs.length + 1)]) hb6)
   have HS6 : Hid (Below w5.heap.size w5 w6) := Lib.hid (Below.trans zg (hb6.mono (by first | exact Nat.le_refl _ | omega | (simp; done) | (simp; omega))))
   have HB6 : Hid (Below w2.heap.size w2 w6) := Lib.hid (HB5.out.trans (HS6.out.mono hs5))
   have hs6 := HB6.out.size
   have hst6 := HS6.out.size
   have HG6 := Lib.hid (HG5.out.up HS6.out)
   have HH6 := Lib.hid (HH5.out.up HS6.out)
   have HH'6 := Lib.hid (HH'5.out.up HS6.out)
   clear hb6
   clear kg0 kg1 kg2 lt_g kc0 kc1 kc2 lt_c
   obtain ⟨kg0, kg1, kg2⟩ := Hg6.out.c3
   have lt_g : w2.heap.size < w6.heap.size := Hg6.out.lt
   obtain ⟨kd0, kd1, kd2⟩ := Hd6.out.c3
   have lt_d : bn11 < w6.heap.size := Hd6.out.lt
   go_wp2_with fail
   refine (Bounds_ok err miss full emp G (some ⟨Bn11, 0, none⟩) d (hs.length + 1) gs hs' _ (HG6.out.up zg) hgl' (HH'6.out.up zg) hhl2 HE'.out HX'.out).mono ?_
   rw [HBX'.out]
   rintro e w7 ⟨rfl, hb7⟩
   have Hg7 := Lib.hid (Holds.up (by have h := Hg6.out; exact zp4 : Holds _ (w2.heap.size) 24 #[.int .i64 err, .int .i64 miss, .slice G gs.length d]) hb7)
   have Hc7 := Lib.hid (Holds.up (by have h := Hc6.out; exact zp4 : Holds _ (w2.heap.size + 1) 27 #[.int .i64 full, .int .i64 emp, .slice H hs.length q]) hb7)
   have Hm7 := Lib.hid (Holds.up (by have h := Hm6.out; exact zp4 : Holds _ (w2.heap.size + 1 + 1) 28 #[.int .i64 m0, .int .i64 m1, .int .i64 m2, .int .i64 m3]) hb7)
   have Hd7 := Lib.hid (Holds.up (by have h := Hd6.out; exact zp4 : Holds _ (bn11) 27 #[.int .i64 full, .int .i64 emp, .slice (some ⟨Bn11, 0, none⟩) hs'.length (hs.length + 1)]) hb7)
   have Ha7 := Lib.hid (Holds.up (zp4 : Holds _ (w6.heap.size) 76 #[.int .i64 B.l0, .int .i64 B.h0, .int .i64 B.l1, .int .i64 B.h1, .int .i64 B.l2, .int .i64 B.h2, .int .i64 B.l3, .int .i64 B.h3]) hb7)
   have HS7 : Hid (Below w6.heap.size w6 w7) := Lib.hid (Below.trans zg (hb7.mono (by first | exact Nat.le_refl _ | omega | (simp; done) | (simp; omega))))
   have HB7 : Hid (Below w2.heap.size w2 w7) := Lib.hid (HB6.out.trans (HS7.out.mono hs6))
   have hs7 := HB7.out.size
   have hst7 := HS7.out.size
   have HG7 := Lib.hid (HG6.out.up HS7.out)
   have HH7 := Lib.hid (HH6.out.up HS7.out)
   have HH'7 := Lib.hid (HH'6.out.up HS7.out)
   clear hb7
   clear kg0 kg1 kg2 lt_g kd0 kd1 kd2 lt_d
   obtain ⟨kg0, kg1, kg2⟩ := Hg7.out.c3
   have lt_g : w2.heap.size < w7.heap.size := Hg7.out.lt
   obtain ⟨kc0, kc1, kc2⟩ := Hc7.out.c3
   have lt_c : w2.heap.size + 1 < w7.heap.size := Hc7.out.lt
   go_wp2_with fail
   refine (Can_ok err miss full emp G H d q gs hs _ (HG7.out.up zg) hgl' hgd (HH7.out.up zg) hhl' HE.out HX.out).mono ?_
   rintro e w8 ⟨cv, rfl, hown, hb8⟩
   have Hg8 := Lib.hid (Holds.up (by have h := Hg7.out; exact zp4 : Holds _ (w2.heap.size) 24 #[.int .i64 err, .int .i64 miss, .slice G gs.length d]) hb8)
   have Hc8 := Lib.hid (Holds.up (by have h := Hc7.out; exact zp4 : Holds _ (w2.heap.size + 1) 27 #[.int .i64 full, .int .i64 emp, .slice H hs.length q]) hb8)
   have Hm8 := Lib.hid (Holds.up (by have h := Hm7.out; exact zp4 : Holds _ (w2.heap.size + 1 + 1) 28 #[.int .i64 m0, .int .i64 m1, .int .i64 m2, .int .i64 m3]) hb8)
   have Hd8 := Lib.hid (Holds.up (by have h := Hd7.out; exact zp4 : Holds _ (bn11) 27 #[.int .i64 full, .int .i64 emp, .slice (some ⟨Bn11, 0, none⟩) hs'.length (hs.length + 1)]) hb8)
   have Ha8 := Lib.hid (Holds.up (by have h := Ha7.out; exact zp4 : Holds _ (w6.heap.size) 76 #[.int .i64 B.l0, .int .i64 B.h0, .int .i64 B.l1, .int .i64 B.h1, .int .i64 B.l2, .int .i64 B.h2, .int .i64 B.l3, .int .i64 B.h3]) hb8)
   have Hb8 := Lib.hid (Holds.up (zp4 : Holds _ (w7.heap.size) 76 #[.int .i64 B'.l0, .int .i64 B'.h0, .int .i64 B'.l1, .int .i64 B'.h1, .int .i64 B'.l2, .int .i64 B'.h2, .int .i64 B'.l3, .int .i64 B'.h3]) hb8)
   have HS8 : Hid (Below w7.heap.size w7 w8) := Lib.hid (Below.trans zg (hb8.mono (by first | exact Nat.le_refl _ | omega | (simp; done) | (simp; omega))))
   have HB8 : Hid (Below w2.heap.size w2 w8) := Lib.hid (HB7.out.trans (HS8.out.mono hs7))
   have hs8 := HB8.out.size
   have hst8 := HS8.out.size
   have HG8 := Lib.hid (HG7.out.up HS8.out)
   have HH8 := Lib.hid (HH7.out.up HS8.out)
   have HH'8 := Lib.hid (HH'7.out.up HS8.out)
   clear hb8
   rw [HBX.out, HCAN.out] at hown
   obtain ⟨L, lc, rfl, hL⟩ := ints_of_row hown
   have HL8 := Lib.hid hL
   clear hown hL
   clear kg0 kg1 kg2 lt_g kc0 kc1 kc2 lt_c
   obtain ⟨kg0, kg1, kg2⟩ := Hg8.out.c3
   have lt_g : w2.heap.size < w8.heap.size := Hg8.out.lt
   obtain ⟨kd0, kd1, kd2⟩ := Hd8.out.c3
   have lt_d : bn11 < w8.heap.size := Hd8.out.lt
   go_wp2_with fail
   refine (Can_ok err miss full emp G (some ⟨Bn11, 0, none⟩) d (hs.length + 1) gs hs' _ (HG8.out.up zg) hgl' hgd (HH'8.out.up zg) hhl2 HE'.out HX'.out).mono ?_
   rintro e w9 ⟨cv', rfl, hown, hb9⟩
   have Hg9 := Lib.hid (Holds.up (by have h := Hg8.out; exact zp4 : Holds _ (w2.heap.size) 24 #[.int .i64 err, .int .i64 miss, .slice G gs.length d]) hb9)
   have Hc9 := Lib.hid (Holds.up (by have h := Hc8.out; exact zp4 : Holds _ (w2.heap.size + 1) 27 #[.int .i64 full, .int .i64 emp, .slice H hs.length q]) hb9)
   have Hm9 := Lib.hid (Holds.up (by have h := Hm8.out; exact zp4 : Holds _ (w2.heap.size + 1 + 1) 28 #[.int .i64 m0, .int .i64 m1, .int .i64 m2, .int .i64 m3]) hb9)
   have Hd9 := Lib.hid (Holds.up (by have h := Hd8.out; exact zp4 : Holds _ (bn11) 27 #[.int .i64 full, .int .i64 emp, .slice (some ⟨Bn11, 0, none⟩) hs'.length (hs.length + 1)]) hb9)
   have Ha9 := Lib.hid (Holds.up (by have h := Ha8.out; exact zp4 : Holds _ (w6.heap.size) 76 #[.int .i64 B.l0, .int .i64 B.h0, .int .i64 B.l1, .int .i64 B.h1, .int .i64 B.l2, .int .i64 B.h2, .int .i64 B.l3, .int .i64 B.h3]) hb9)
   have Hb9 := Lib.hid (Holds.up (by have h := Hb8.out; exact zp4 : Holds _ (w7.heap.size) 76 #[.int .i64 B'.l0, .int .i64 B'.h0, .int .i64 B'.l1, .int .i64 B'.h1, .int .i64 B'.l2, .int .i64 B'.h2, .int .i64 B'.l3, .int .i64 B'.h3]) hb9)
   have Hx9 := Lib.hid (Holds.up (zp4 : Holds _ (w8.heap.size) 87 #[.slice L can.length lc]) hb9)
   have HS9 : Hid (Below w8.heap.size w8 w9) := Lib.hid (Below.trans zg (hb9.mono (by first | exact Nat.le_refl _ | omega | (simp; done) | (simp; omega))))
   have HB9 : Hid (Below w2.heap.size w2 w9) := Lib.hid (HB8.out.trans (HS9.out.mono hs8))
   have hs9 := HB9.out.size
   have hst9 := HS9.out.size
   have HG9 := Lib.hid (HG8.out.up HS9.out)
   have HH9 := Lib.hid (HH8.out.up HS9.out)
   have HH'9 := Lib.hid (HH'8.out.up HS9.out)
   have HL9 := Lib.hid (HL8.out.up HS9.out)
   clear hb9
   rw [HBX'.out, HCAN'.out] at hown
   obtain ⟨L', lc', rfl, hL⟩ := ints_of_row hown
   have HL'9 := Lib.hid hL
   clear hown hL
   clear kg0 kg1 kg2 lt_g kd0 kd1 kd2 lt_d
   go_wp2_with fail
   refine (containsFunc_none L' lc' can' w8.heap.size L lc can _ (HL'9.out.up zg) (Hx9.out.up zg) (HL9.out.up zg) (by omega) (by omega) HCC.out).mono ?_
   rintro e w10 ⟨rfl, hb10⟩
   have Hg10 := Lib.hid (Holds.up (by have h := Hg9.out; exact zp4 : Holds _ (w2.heap.size) 24 #[.int .i64 err, .int .i64 miss, .slice G gs.length d]) hb10)
   have Hc10 := Lib.hid (Holds.up (by have h := Hc9.out; exact zp4 : Holds _ (w2.heap.size + 1) 27 #[.int .i64 full, .int .i64 emp, .slice H hs.length q]) hb10)
   have Hm10 := Lib.hid (Holds.up (by have h := Hm9.out; exact zp4 : Holds _ (w2.heap.size + 1 + 1) 28 #[.int .i64 m0, .int .i64 m1, .int .i64 m2, .int .i64 m3]) hb10)
   have Hd10 := Lib.hid (Holds.up (by have h := Hd9.out; exact zp4 : Holds _ (bn11) 27 #[.int .i64 full, .int .i64 emp, .slice (some ⟨Bn11, 0, none⟩) hs'.length (hs.length + 1)]) hb10)
   have Ha10 := Lib.hid (Holds.up (by have h := Ha9.out; exact zp4 : Holds _ (w6.heap.size) 76 #[.int .i64 B.l0, .int .i64 B.h0, .int .i64 B.l1, .int .i64 B.h1, .int .i64 B.l2, .int .i64 B.h2, .int .i64 B.l3, .int .i64 B.h3]) hb10)
   have Hb10 := Lib.hid (Holds.up (by have h := Hb9.out; exact zp4 : Holds _ (w7.heap.size) 76 #[.int .i64 B'.l0, .int .i64 B'.h0, .int .i64 B'.l1, .int .i64 B'.h1, .int .i64 B'.l2, .int .i64 B'.h2, .int .i64 B'.l3, .int .i64 B'.h3]) hb10)
   have Hx10 := Lib.hid (Holds.up (by have h := Hx9.out; exact zp4 : Holds _ (w8.heap.size) 87 #[.slice L can.length lc]) hb10)
   have HS10 : Hid (Below w9.heap.size w9 w10) := Lib.hid (Below.trans zg (hb10.mono (by first | exact Nat.le_refl _ | omega | (simp; done) | (simp; omega))))
   have HB10 : Hid (Below w2.heap.size w2 w10) := Lib.hid (HB9.out.trans (HS10.out.mono hs9))
   have hs10 := HB10.out.size
   have hst10 := HS10.out.size
   have HG10 := Lib.hid (HG9.out.up HS10.out)
   have HH10 := Lib.hid (HH9.out.up HS10.out)
   have HH'10 := Lib.hid (HH'9.out.up HS10.out)
   clear hb10
   obtain ⟨lo, hlo⟩ : ∃ z, z = max 0 (full - emp - 2 * err) := ⟨_, rfl⟩
   obtain ⟨hi, hhi⟩ : ∃ z, z = max 0 (full - emp + 2 * err) := ⟨_, rfl⟩
   have hlo0 : 0 ≤ lo := by omega
   have hhi0 : 0 ≤ hi := by omega
   have hhi1 : hi ≤ 20500 := by omega
   have hlh : lo ≤ hi := by omega
   have HLO := Lib.hid hlo
   have HHI := Lib.hid hhi
   clear hlo hhi
   go_wp2_with fail
   go_loopw [122] (fun v122 wr => ∃ k : Nat, v122 = .int .i64 (k : Int) ∧ k ≤ 4 ∧ Below w10.heap.size w10 wr) (fun v122 _ => 4 - (intOf v122).toNat)
   case atStart => exact ⟨0, rfl, by decide, Below.refl _ _⟩
   case round =>
    obtain ⟨k, rfl, hk4, hl⟩ := hrel
    have HSr := Lib.hid hl
    have hszl := hl.size
    clear hl
    have Hgr := Lib.hid (Hg10.out.up HSr.out)
    have Hcr := Lib.hid (Hc10.out.up HSr.out)
    have Hmr := Lib.hid (Hm10.out.up HSr.out)
    have Hdr := Lib.hid (Hd10.out.up HSr.out)
    have Har := Lib.hid (Ha10.out.up HSr.out)
    have Hbr := Lib.hid (Hb10.out.up HSr.out)
    have Hxr := Lib.hid (Hx10.out.up HSr.out)
    have HGr := Lib.hid (HG10.out.up HSr.out)
    have HHr := Lib.hid (HH10.out.up HSr.out)
    have HH'r := Lib.hid (HH'10.out.up HSr.out)
    have HBr : Hid (Below w2.heap.size w2 wr) := Lib.hid (HB10.out.trans (HSr.out.mono hs10))
    have hsr := HBr.out.size
    obtain ⟨kg0, kg1, kg2⟩ := Hgr.out.c3
    have lt_g : w2.heap.size < wr.heap.size := Hgr.out.lt
    obtain ⟨kc0, kc1, kc2⟩ := Hcr.out.c3
    have lt_c : w2.heap.size + 1 < wr.heap.size := Hcr.out.lt
    by_cases hlt : k < 4
    ·have hkk : (k : Int) < 4 := by omega
     obtain ⟨al, hal⟩ : ∃ z, z = bLo B k := ⟨_, rfl⟩
     obtain ⟨ah, hah⟩ : ∃ z, z = bHi B k := ⟨_, rfl⟩
     obtain ⟨bl, hbl⟩ : ∃ z, z = bLo B' k := ⟨_, rfl⟩
     obtain ⟨bh, hbh⟩ : ∃ z, z = bHi B' k := ⟨_, rfl⟩
     obtain ⟨rk, hrk⟩ : ∃ z, z = gat m0 m1 m2 m3 k := ⟨_, rfl⟩
     obtain ⟨al0, al1, ah0, ah1⟩ : 0 ≤ al ∧ al ≤ 40 ∧ 0 ≤ ah ∧ ah ≤ 40 := by rw [hal, hah]; exact ok_bd HBK.out k
     obtain ⟨bl0, bl1, bh0, bh1⟩ : 0 ≤ bl ∧ bl ≤ 40 ∧ 0 ≤ bh ∧ bh ≤ 40 := by rw [hbl, hbh]; exact ok_bd HBK'.out k
     have q1 : al ≤ bl := by rw [hal, hbl]; exact sub_lo HSB.out HBT'.out k
     have q2 : bh ≤ ah := by rw [hah, hbh]; exact sub_hi HSB.out HBT'.out k
     have q3 : bl ≤ bh := by rw [hbl, hbh]; exact tight_le HBT'.out k
     obtain ⟨q4, q5⟩ : bl ≤ rk ∧ rk ≤ bh := by rw [hbl, hbh, hrk]; exact has_gat HBM'.out k
     have hbxl : bxl B k = al := by rw [hal]; exact bx_lo B k
     have hbxh : bxh B k = ah := by rw [hah]; exact bx_hi B k
     have hbxl' : bxl B' k = bl := by rw [hbl]; exact bx_lo B' k
     have hbxh' : bxh B' k = bh := by rw [hbh]; exact bx_hi B' k
     obtain ⟨sl, hsl⟩ : ∃ z, z = lo * al / 40 := ⟨_, rfl⟩
     obtain ⟨sh, hsh⟩ : ∃ z, z = hi * ah / 40 := ⟨_, rfl⟩
     obtain ⟨tl, htl⟩ : ∃ z, z = lo * bl / 40 := ⟨_, rfl⟩
     obtain ⟨th, hth⟩ : ∃ z, z = hi * bh / 40 := ⟨_, rfl⟩
     have q6 : sl ≤ tl := by rw [hsl, htl]; exact mul_part hlo0 q1
     have q7 : th ≤ sh := by rw [hth, hsh]; exact mul_part hhi0 q2
     have q8 : tl ≤ th := by rw [htl, hth]; exact mul_part2 bl0 hlo0 hlh q3
     have HAL := Lib.hid hal
     have HAH := Lib.hid hah
     have HBL := Lib.hid hbl
     have HBH := Lib.hid hbh
     have HRK := Lib.hid hrk
     have HW := Lib.hid (And.intro hbxl hbxh)
     have HW' := Lib.hid (And.intro hbxl' hbxh')
     have HSL_ := Lib.hid (And.intro hsl hsh)
     have HTL := Lib.hid (And.intro htl hth)
     clear hal hah hbl hbh hrk hbxl hbxh hbxl' hbxh' hsl hsh htl hth
     go_wp2_with fail
     refine (weight_at k hlt err miss full emp G H d q gs hs _ (HGr.out.up zg) hgl' (HHr.out.up zg) hhl' HE.out B HBX.out HBE.out lo hi HLO.out HHI.out).mono ?_
     rw [HW.out.1, HW.out.2, ← HSL_.out.1, ← HSL_.out.2]
     rintro e wS ⟨rfl, hbS⟩
     have HgS := Lib.hid (Holds.up (by have h := Hgr.out; exact zp4 : Holds _ (w2.heap.size) 24 #[.int .i64 err, .int .i64 miss, .slice G gs.length d]) hbS)
     have HcS := Lib.hid (Holds.up (by have h := Hcr.out; exact zp4 : Holds _ (w2.heap.size + 1) 27 #[.int .i64 full, .int .i64 emp, .slice H hs.length q]) hbS)
     have HmS := Lib.hid (Holds.up (by have h := Hmr.out; exact zp4 : Holds _ (w2.heap.size + 1 + 1) 28 #[.int .i64 m0, .int .i64 m1, .int .i64 m2, .int .i64 m3]) hbS)
     have HdS := Lib.hid (Holds.up (by have h := Hdr.out; exact zp4 : Holds _ (bn11) 27 #[.int .i64 full, .int .i64 emp, .slice (some ⟨Bn11, 0, none⟩) hs'.length (hs.length + 1)]) hbS)
     have HaS := Lib.hid (Holds.up (by have h := Har.out; exact zp4 : Holds _ (w6.heap.size) 76 #[.int .i64 B.l0, .int .i64 B.h0, .int .i64 B.l1, .int .i64 B.h1, .int .i64 B.l2, .int .i64 B.h2, .int .i64 B.l3, .int .i64 B.h3]) hbS)
     have HbS := Lib.hid (Holds.up (by have h := Hbr.out; exact zp4 : Holds _ (w7.heap.size) 76 #[.int .i64 B'.l0, .int .i64 B'.h0, .int .i64 B'.l1, .int .i64 B'.h1, .int .i64 B'.l2, .int .i64 B'.h2, .int .i64 B'.l3, .int .i64 B'.h3]) hbS)
     have HxS := Lib.hid (Holds.up (by have h := Hxr.out; exact zp4 : Holds _ (w8.heap.size) 87 #[.slice L can.length lc]) hbS)
     have HSS : Hid (Below wr.heap.size wr wS) := Lib.hid (Below.trans zg (hbS.mono (by first | exact Nat.le_refl _ | omega | (simp; done) | (simp; omega))))
     have HBS : Hid (Below w2.heap.size w2 wS) := Lib.hid (HBr.out.trans (HSS.out.mono hsr))
     have hsS := HBS.out.size
     have hstS := HSS.out.size
     have HGS := Lib.hid (HGr.out.up HSS.out)
     have HHS := Lib.hid (HHr.out.up HSS.out)
     have HH'S := Lib.hid (HH'r.out.up HSS.out)
     clear hbS
     clear kg0 kg1 kg2 lt_g kc0 kc1 kc2 lt_c
     obtain ⟨kg0, kg1, kg2⟩ := HgS.out.c3
     have lt_g : w2.heap.size < wS.heap.size := HgS.out.lt
     obtain ⟨kd0, kd1, kd2⟩ := HdS.out.c3
     have lt_d : bn11 < wS.heap.size := HdS.out.lt
     go_wp2_with fail
     refine (weight_at k hlt err miss full emp G (some ⟨Bn11, 0, none⟩) d (hs.length + 1) gs hs' _ (HGS.out.up zg) hgl' (HH'S.out.up zg) hhl2 HE'.out B' HBX'.out HBE'.out lo hi HLO.out HHI.out).mono ?_
     rw [HW'.out.1, HW'.out.2, ← HTL.out.1, ← HTL.out.2]
     rintro e wT ⟨rfl, hbT⟩
     have HgT := Lib.hid (Holds.up (by have h := HgS.out; exact zp4 : Holds _ (w2.heap.size) 24 #[.int .i64 err, .int .i64 miss, .slice G gs.length d]) hbT)
     have HcT := Lib.hid (Holds.up (by have h := HcS.out; exact zp4 : Holds _ (w2.heap.size + 1) 27 #[.int .i64 full, .int .i64 emp, .slice H hs.length q]) hbT)
     have HmT := Lib.hid (Holds.up (by have h := HmS.out; exact zp4 : Holds _ (w2.heap.size + 1 + 1) 28 #[.int .i64 m0, .int .i64 m1, .int .i64 m2, .int .i64 m3]) hbT)
     have HdT := Lib.hid (Holds.up (by have h := HdS.out; exact zp4 : Holds _ (bn11) 27 #[.int .i64 full, .int .i64 emp, .slice (some ⟨Bn11, 0, none⟩) hs'.length (hs.length + 1)]) hbT)
     have HaT := Lib.hid (Holds.up (by have h := HaS.out; exact zp4 : Holds _ (w6.heap.size) 76 #[.int .i64 B.l0, .int .i64 B.h0, .int .i64 B.l1, .int .i64 B.h1, .int .i64 B.l2, .int .i64 B.h2, .int .i64 B.l3, .int .i64 B.h3]) hbT)
     have HbT := Lib.hid (Holds.up (by have h := HbS.out; exact zp4 : Holds _ (w7.heap.size) 76 #[.int .i64 B'.l0, .int .i64 B'.h0, .int .i64 B'.l1, .int .i64 B'.h1, .int .i64 B'.l2, .int .i64 B'.h2, .int .i64 B'.l3, .int .i64 B'.h3]) hbT)
     have HxT := Lib.hid (Holds.up (by have h := HxS.out; exact zp4 : Holds _ (w8.heap.size) 87 #[.slice L can.length lc]) hbT)
     have HsT := Lib.hid (Holds.up (zp4 : Holds _ (wS.heap.size) 60 #[.int .i64 sl, .int .i64 sh]) hbT)
     have HST : Hid (Below wS.heap.size wS wT) := Lib.hid (Below.trans zg (hbT.mono (by first | exact Nat.le_refl _ | omega | (simp; done) | (simp; omega))))
     have HBT : Hid (Below w2.heap.size w2 wT) := Lib.hid (HBS.out.trans (HST.out.mono hsS))
     have hsT := HBT.out.size
     have hstT := HST.out.size
     have HGT := Lib.hid (HGS.out.up HST.out)
     have HHT := Lib.hid (HHS.out.up HST.out)
     have HH'T := Lib.hid (HH'S.out.up HST.out)
     clear hbT
     clear kg0 kg1 kg2 lt_g kd0 kd1 kd2 lt_d
     go_wp2_with fail
     rename_i Kc hKc
     have HRL := Lib.hid (show List.range' 139 69 = [139, 140, 141, 142, 143, 144, 145, 146, 147, 148, 149, 150, 151, 152, 153, 154, 155, 156, 157, 158, 159, 160, 161, 162, 163, 164, 165, 166, 167, 168, 169, 170, 171, 172, 173, 174, 175, 176, 177, 178, 179, 180, 181, 182, 183, 184, 185, 186, 187, 188, 189, 190, 191, 192, 193, 194, 195, 196, 197, 198, 199, 200, 201, 202, 203, 204, 205, 206, 207] from rfl)
     refine wp_region_partsR 139 69 (by kernel_rfl) [some 139, some 140, some 141, some 142, some 143, some 144, some 145, some 146, some 147, some 148, some 149, some 150, some 151, some 152, some 153, some 154, some 155, some 156, some 157, some 158, some 159, some 160, some 161, some 162, some 163, some 164, some 165, some 166, some 167, some 168, some 169, some 170, some 171, some 172, some 173, some 174, some 175, some 176, some 177, some 178, some 179, some 180, some 181, some 182, some 183, some 184, some 185, some 186, some 187, some 188, some 189, some 190, some 191, some 192, some 193, some 194, some 195, some 196, some 197, some 198, some 199, some 200, some 201, some 202, some 203, some 204, some 205, some 206, some 207] (fun jq xq w' => match jq with
      | 0 => xq 139 = .int .i64 0
      | 1 => xq 140 = .bool false
      | 2 => xq 141 = .bool false
      | 3 => xq 142 = .int .i64 0
      | 4 => xq 143 = .bool false
      | 5 => xq 144 = .bool false
      | 6 => xq 145 = .bool false
      | 7 => xq 146 = .int .i64 (k : Int)
      | 8 => xq 147 = .pointer (some ⟨w7.heap.size, k * 2, none⟩)
      | 9 => xq 148 = .pointer (some ⟨w7.heap.size, k * 2, none⟩)
      | 10 => xq 149 = .int .i64 bl
      | 11 => xq 150 = .int .i64 (k : Int)
      | 12 => xq 151 = .pointer (some ⟨w6.heap.size, k * 2, none⟩)
      | 13 => xq 152 = .pointer (some ⟨w6.heap.size, k * 2, none⟩)
      | 14 => xq 153 = .int .i64 al
      | 15 => xq 154 = .bool false
      | 16 => xq 155 = .bool false
      | 17 => xq 156 = .bool false
      | 18 => xq 157 = .int .i64 (k : Int)
      | 19 => xq 158 = .pointer (some ⟨w7.heap.size, k * 2, none⟩)
      | 20 => xq 159 = .pointer (some ⟨w7.heap.size, k * 2 + 1, none⟩)
      | 21 => xq 160 = .int .i64 bh
      | 22 => xq 161 = .int .i64 (k : Int)
      | 23 => xq 162 = .pointer (some ⟨w6.heap.size, k * 2, none⟩)
      | 24 => xq 163 = .pointer (some ⟨w6.heap.size, k * 2 + 1, none⟩)
      | 25 => xq 164 = .int .i64 ah
      | 26 => xq 165 = .bool false
      | 27 => xq 166 = .bool false
      | 28 => xq 167 = .bool false
      | 29 => xq 168 = .pointer (some ⟨wT.heap.size, 0, none⟩)
      | 30 => xq 169 = .int .i64 tl
      | 31 => xq 170 = .pointer (some ⟨wS.heap.size, 0, none⟩)
      | 32 => xq 171 = .int .i64 sl
      | 33 => xq 172 = .bool false
      | 34 => xq 173 = .bool false
      | 35 => xq 174 = .bool false
      | 36 => xq 175 = .pointer (some ⟨wT.heap.size, 1, none⟩)
      | 37 => xq 176 = .int .i64 th
      | 38 => xq 177 = .pointer (some ⟨wS.heap.size, 1, none⟩)
      | 39 => xq 178 = .int .i64 sh
      | 40 => xq 179 = .bool false
      | 41 => xq 180 = .bool false
      | 42 => xq 181 = .bool false
      | 43 => xq 182 = .pointer (some ⟨wT.heap.size, 0, none⟩)
      | 44 => xq 183 = .int .i64 tl
      | 45 => xq 184 = .pointer (some ⟨wT.heap.size, 1, none⟩)
      | 46 => xq 185 = .int .i64 th
      | 47 => xq 186 = .bool false
      | 48 => xq 187 = .bool false
      | 49 => xq 188 = .bool false
      | 50 => xq 189 = .int .i64 (k : Int)
      | 51 => xq 190 = .pointer (some ⟨w2.heap.size + 1 + 1, k, none⟩)
      | 52 => xq 191 = .int .i64 rk
      | 53 => xq 192 = .int .i64 (k : Int)
      | 54 => xq 193 = .pointer (some ⟨w7.heap.size, k * 2, none⟩)
      | 55 => xq 194 = .pointer (some ⟨w7.heap.size, k * 2, none⟩)
      | 56 => xq 195 = .int .i64 bl
      | 57 => xq 196 = .bool false
      | 58 => xq 197 = .bool false
      | 59 => xq 198 = .bool false
      | 60 => xq 199 = .int .i64 (k : Int)
      | 61 => xq 200 = .pointer (some ⟨w2.heap.size + 1 + 1, k, none⟩)
      | 62 => xq 201 = .int .i64 rk
      | 63 => xq 202 = .int .i64 (k : Int)
      | 64 => xq 203 = .pointer (some ⟨w7.heap.size, k * 2, none⟩)
      | 65 => xq 204 = .pointer (some ⟨w7.heap.size, k * 2 + 1, none⟩)
      | 66 => xq 205 = .int .i64 bh
      | 67 => xq 206 = .bool false
      | 68 => xq 207 = .bool false
      | _ => True) [[139], [140], [141], [142], [143], [144], [145], [146], [147], [148], [149], [150], [151], [152], [153], [154], [155], [156], [157], [158], [159], [160], [161], [162], [163], [164], [165], [166], [167], [168], [169], [170], [171], [172], [173], [174], [175], [176], [177], [178], [179], [180], [181], [182], [183], [184], [185], [186], [187], [188], [189], [190], [191], [192], [193], [194], [195], [196], [197], [198], [199], [200], [201], [202], [203], [204], [205], [206], [207]] [] (fun w' => Below wT.heap.size wT w' ∧ Holds w' wT.heap.size 60 #[.int .i64 tl, .int .i64 th]) (by kernel_rfl) (by kernel_rfl) (by rfl) ?_ ?_ (fun w' w'' hb h => ⟨h.1.trans (hb.mono h.1.size), h.2.up hb⟩) (⟨zg, Holds.new _ _ _⟩) ?_ ?_ ?_
     ·intro jq xq xq' wqq h hv
      match jq, h, hv with
      | 0, h, hv => show xq' 139 = .int .i64 0; rw [← h 139 (by decide)]; exact hv
      | 1, h, hv => show xq' 140 = .bool false; rw [← h 140 (by decide)]; exact hv
      | 2, h, hv => show xq' 141 = .bool false; rw [← h 141 (by decide)]; exact hv
      | 3, h, hv => show xq' 142 = .int .i64 0; rw [← h 142 (by decide)]; exact hv
      | 4, h, hv => show xq' 143 = .bool false; rw [← h 143 (by decide)]; exact hv
      | 5, h, hv => show xq' 144 = .bool false; rw [← h 144 (by decide)]; exact hv
      | 6, h, hv => show xq' 145 = .bool false; rw [← h 145 (by decide)]; exact hv
      | 7, h, hv => show xq' 146 = .int .i64 (k : Int); rw [← h 146 (by decide)]; exact hv
      | 8, h, hv => show xq' 147 = .pointer (some ⟨w7.heap.size, k * 2, none⟩); rw [← h 147 (by decide)]; exact hv
      | 9, h, hv => show xq' 148 = .pointer (some ⟨w7.heap.size, k * 2, none⟩); rw [← h 148 (by decide)]; exact hv
      | 10, h, hv => show xq' 149 = .int .i64 bl; rw [← h 149 (by decide)]; exact hv
      | 11, h, hv => show xq' 150 = .int .i64 (k : Int); rw [← h 150 (by decide)]; exact hv
      | 12, h, hv => show xq' 151 = .pointer (some ⟨w6.heap.size, k * 2, none⟩); rw [← h 151 (by decide)]; exact hv
      | 13, h, hv => show xq' 152 = .pointer (some ⟨w6.heap.size, k * 2, none⟩); rw [← h 152 (by decide)]; exact hv
      | 14, h, hv => show xq' 153 = .int .i64 al; rw [← h 153 (by decide)]; exact hv
      | 15, h, hv => show xq' 154 = .bool false; rw [← h 154 (by decide)]; exact hv
      | 16, h, hv => show xq' 155 = .bool false; rw [← h 155 (by decide)]; exact hv
      | 17, h, hv => show xq' 156 = .bool false; rw [← h 156 (by decide)]; exact hv
      | 18, h, hv => show xq' 157 = .int .i64 (k : Int); rw [← h 157 (by decide)]; exact hv
      | 19, h, hv => show xq' 158 = .pointer (some ⟨w7.heap.size, k * 2, none⟩); rw [← h 158 (by decide)]; exact hv
      | 20, h, hv => show xq' 159 = .pointer (some ⟨w7.heap.size, k * 2 + 1, none⟩); rw [← h 159 (by decide)]; exact hv
      | 21, h, hv => show xq' 160 = .int .i64 bh; rw [← h 160 (by decide)]; exact hv
      | 22, h, hv => show xq' 161 = .int .i64 (k : Int); rw [← h 161 (by decide)]; exact hv
      | 23, h, hv => show xq' 162 = .pointer (some ⟨w6.heap.size, k * 2, none⟩); rw [← h 162 (by decide)]; exact hv
      | 24, h, hv => show xq' 163 = .pointer (some ⟨w6.heap.size, k * 2 + 1, none⟩); rw [← h 163 (by decide)]; exact hv
      | 25, h, hv => show xq' 164 = .int .i64 ah; rw [← h 164 (by decide)]; exact hv
      | 26, h, hv => show xq' 165 = .bool false; rw [← h 165 (by decide)]; exact hv
      | 27, h, hv => show xq' 166 = .bool false; rw [← h 166 (by decide)]; exact hv
      | 28, h, hv => show xq' 167 = .bool false; rw [← h 167 (by decide)]; exact hv
      | 29, h, hv => show xq' 168 = .pointer (some ⟨wT.heap.size, 0, none⟩); rw [← h 168 (by decide)]; exact hv
      | 30, h, hv => show xq' 169 = .int .i64 tl; rw [← h 169 (by decide)]; exact hv
      | 31, h, hv => show xq' 170 = .pointer (some ⟨wS.heap.size, 0, none⟩); rw [← h 170 (by decide)]; exact hv
      | 32, h, hv => show xq' 171 = .int .i64 sl; rw [← h 171 (by decide)]; exact hv
      | 33, h, hv => show xq' 172 = .bool false; rw [← h 172 (by decide)]; exact hv
      | 34, h, hv => show xq' 173 = .bool false; rw [← h 173 (by decide)]; exact hv
      | 35, h, hv => show xq' 174 = .bool false; rw [← h 174 (by decide)]; exact hv
      | 36, h, hv => show xq' 175 = .pointer (some ⟨wT.heap.size, 1, none⟩); rw [← h 175 (by decide)]; exact hv
      | 37, h, hv => show xq' 176 = .int .i64 th; rw [← h 176 (by decide)]; exact hv
      | 38, h, hv => show xq' 177 = .pointer (some ⟨wS.heap.size, 1, none⟩); rw [← h 177 (by decide)]; exact hv
      | 39, h, hv => show xq' 178 = .int .i64 sh; rw [← h 178 (by decide)]; exact hv
      | 40, h, hv => show xq' 179 = .bool false; rw [← h 179 (by decide)]; exact hv
      | 41, h, hv => show xq' 180 = .bool false; rw [← h 180 (by decide)]; exact hv
      | 42, h, hv => show xq' 181 = .bool false; rw [← h 181 (by decide)]; exact hv
      | 43, h, hv => show xq' 182 = .pointer (some ⟨wT.heap.size, 0, none⟩); rw [← h 182 (by decide)]; exact hv
      | 44, h, hv => show xq' 183 = .int .i64 tl; rw [← h 183 (by decide)]; exact hv
      | 45, h, hv => show xq' 184 = .pointer (some ⟨wT.heap.size, 1, none⟩); rw [← h 184 (by decide)]; exact hv
      | 46, h, hv => show xq' 185 = .int .i64 th; rw [← h 185 (by decide)]; exact hv
      | 47, h, hv => show xq' 186 = .bool false; rw [← h 186 (by decide)]; exact hv
      | 48, h, hv => show xq' 187 = .bool false; rw [← h 187 (by decide)]; exact hv
      | 49, h, hv => show xq' 188 = .bool false; rw [← h 188 (by decide)]; exact hv
      | 50, h, hv => show xq' 189 = .int .i64 (k : Int); rw [← h 189 (by decide)]; exact hv
      | 51, h, hv => show xq' 190 = .pointer (some ⟨w2.heap.size + 1 + 1, k, none⟩); rw [← h 190 (by decide)]; exact hv
      | 52, h, hv => show xq' 191 = .int .i64 rk; rw [← h 191 (by decide)]; exact hv
      | 53, h, hv => show xq' 192 = .int .i64 (k : Int); rw [← h 192 (by decide)]; exact hv
      | 54, h, hv => show xq' 193 = .pointer (some ⟨w7.heap.size, k * 2, none⟩); rw [← h 193 (by decide)]; exact hv
      | 55, h, hv => show xq' 194 = .pointer (some ⟨w7.heap.size, k * 2, none⟩); rw [← h 194 (by decide)]; exact hv
      | 56, h, hv => show xq' 195 = .int .i64 bl; rw [← h 195 (by decide)]; exact hv
      | 57, h, hv => show xq' 196 = .bool false; rw [← h 196 (by decide)]; exact hv
      | 58, h, hv => show xq' 197 = .bool false; rw [← h 197 (by decide)]; exact hv
      | 59, h, hv => show xq' 198 = .bool false; rw [← h 198 (by decide)]; exact hv
      | 60, h, hv => show xq' 199 = .int .i64 (k : Int); rw [← h 199 (by decide)]; exact hv
      | 61, h, hv => show xq' 200 = .pointer (some ⟨w2.heap.size + 1 + 1, k, none⟩); rw [← h 200 (by decide)]; exact hv
      | 62, h, hv => show xq' 201 = .int .i64 rk; rw [← h 201 (by decide)]; exact hv
      | 63, h, hv => show xq' 202 = .int .i64 (k : Int); rw [← h 202 (by decide)]; exact hv
      | 64, h, hv => show xq' 203 = .pointer (some ⟨w7.heap.size, k * 2, none⟩); rw [← h 203 (by decide)]; exact hv
      | 65, h, hv => show xq' 204 = .pointer (some ⟨w7.heap.size, k * 2 + 1, none⟩); rw [← h 204 (by decide)]; exact hv
      | 66, h, hv => show xq' 205 = .int .i64 bh; rw [← h 205 (by decide)]; exact hv
      | 67, h, hv => show xq' 206 = .bool false; rw [← h 206 (by decide)]; exact hv
      | 68, h, hv => show xq' 207 = .bool false; rw [← h 207 (by decide)]; exact hv
      | _ + 69, _, _ => trivial
     ·intro jq xq wqq w' hb' hv
      match jq, hv with
      | 0, hv => exact hv
      | 1, hv => exact hv
      | 2, hv => exact hv
      | 3, hv => exact hv
      | 4, hv => exact hv
      | 5, hv => exact hv
      | 6, hv => exact hv
      | 7, hv => exact hv
      | 8, hv => exact hv
      | 9, hv => exact hv
      | 10, hv => exact hv
      | 11, hv => exact hv
      | 12, hv => exact hv
      | 13, hv => exact hv
      | 14, hv => exact hv
      | 15, hv => exact hv
      | 16, hv => exact hv
      | 17, hv => exact hv
      | 18, hv => exact hv
      | 19, hv => exact hv
      | 20, hv => exact hv
      | 21, hv => exact hv
      | 22, hv => exact hv
      | 23, hv => exact hv
      | 24, hv => exact hv
      | 25, hv => exact hv
      | 26, hv => exact hv
      | 27, hv => exact hv
      | 28, hv => exact hv
      | 29, hv => exact hv
      | 30, hv => exact hv
      | 31, hv => exact hv
      | 32, hv => exact hv
      | 33, hv => exact hv
      | 34, hv => exact hv
      | 35, hv => exact hv
      | 36, hv => exact hv
      | 37, hv => exact hv
      | 38, hv => exact hv
      | 39, hv => exact hv
      | 40, hv => exact hv
      | 41, hv => exact hv
      | 42, hv => exact hv
      | 43, hv => exact hv
      | 44, hv => exact hv
      | 45, hv => exact hv
      | 46, hv => exact hv
      | 47, hv => exact hv
      | 48, hv => exact hv
      | 49, hv => exact hv
      | 50, hv => exact hv
      | 51, hv => exact hv
      | 52, hv => exact hv
      | 53, hv => exact hv
      | 54, hv => exact hv
      | 55, hv => exact hv
      | 56, hv => exact hv
      | 57, hv => exact hv
      | 58, hv => exact hv
      | 59, hv => exact hv
      | 60, hv => exact hv
      | 61, hv => exact hv
      | 62, hv => exact hv
      | 63, hv => exact hv
      | 64, hv => exact hv
      | 65, hv => exact hv
      | 66, hv => exact hv
      | 67, hv => exact hv
      | 68, hv => exact hv
      | _ + 69, _ => trivial
     ·intro jq hj
      match jq, hj with
      | 0, hj => exact absurd hj (by decide)
      | 1, hj => exact absurd hj (by decide)
      | 2, hj => exact absurd hj (by decide)
      | 3, hj => exact absurd hj (by decide)
      | 4, hj => exact absurd hj (by decide)
      | 5, hj => exact absurd hj (by decide)
      | 6, hj => exact absurd hj (by decide)
      | 7, hj => exact absurd hj (by decide)
      | 8, hj => exact absurd hj (by decide)
      | 9, hj => exact absurd hj (by decide)
      | 10, hj => exact absurd hj (by decide)
      | 11, hj => exact absurd hj (by decide)
      | 12, hj => exact absurd hj (by decide)
      | 13, hj => exact absurd hj (by decide)
      | 14, hj => exact absurd hj (by decide)
      | 15, hj => exact absurd hj (by decide)
      | 16, hj => exact absurd hj (by decide)
      | 17, hj => exact absurd hj (by decide)
      | 18, hj => exact absurd hj (by decide)
      | 19, hj => exact absurd hj (by decide)
      | 20, hj => exact absurd hj (by decide)
      | 21, hj => exact absurd hj (by decide)
      | 22, hj => exact absurd hj (by decide)
      | 23, hj => exact absurd hj (by decide)
      | 24, hj => exact absurd hj (by decide)
      | 25, hj => exact absurd hj (by decide)
      | 26, hj => exact absurd hj (by decide)
      | 27, hj => exact absurd hj (by decide)
      | 28, hj => exact absurd hj (by decide)
      | 29, hj => exact absurd hj (by decide)
      | 30, hj => exact absurd hj (by decide)
      | 31, hj => exact absurd hj (by decide)
      | 32, hj => exact absurd hj (by decide)
      | 33, hj => exact absurd hj (by decide)
      | 34, hj => exact absurd hj (by decide)
      | 35, hj => exact absurd hj (by decide)
      | 36, hj => exact absurd hj (by decide)
      | 37, hj => exact absurd hj (by decide)
      | 38, hj => exact absurd hj (by decide)
      | 39, hj => exact absurd hj (by decide)
      | 40, hj => exact absurd hj (by decide)
      | 41, hj => exact absurd hj (by decide)
      | 42, hj => exact absurd hj (by decide)
      | 43, hj => exact absurd hj (by decide)
      | 44, hj => exact absurd hj (by decide)
      | 45, hj => exact absurd hj (by decide)
      | 46, hj => exact absurd hj (by decide)
      | 47, hj => exact absurd hj (by decide)
      | 48, hj => exact absurd hj (by decide)
      | 49, hj => exact absurd hj (by decide)
      | 50, hj => exact absurd hj (by decide)
      | 51, hj => exact absurd hj (by decide)
      | 52, hj => exact absurd hj (by decide)
      | 53, hj => exact absurd hj (by decide)
      | 54, hj => exact absurd hj (by decide)
      | 55, hj => exact absurd hj (by decide)
      | 56, hj => exact absurd hj (by decide)
      | 57, hj => exact absurd hj (by decide)
      | 58, hj => exact absurd hj (by decide)
      | 59, hj => exact absurd hj (by decide)
      | 60, hj => exact absurd hj (by decide)
      | 61, hj => exact absurd hj (by decide)
      | 62, hj => exact absurd hj (by decide)
      | 63, hj => exact absurd hj (by decide)
      | 64, hj => exact absurd hj (by decide)
      | 65, hj => exact absurd hj (by decide)
      | 66, hj => exact absurd hj (by decide)
      | 67, hj => exact absurd hj (by decide)
      | 68, hj => exact absurd hj (by decide)
      | _ + 69, _ => trivial
     ·refine ⟨?_, ?_, ?_, ?_, ?_, ?_, ?_, ?_, ?_, ?_, ?_, ?_, ?_, ?_, ?_, ?_, ?_, ?_, ?_, ?_, ?_, ?_, ?_, ?_, ?_, ?_, ?_, ?_, ?_, ?_, ?_, ?_, ?_, ?_, ?_, ?_, ?_, ?_, ?_, ?_, ?_, ?_, ?_, ?_, ?_, ?_, ?_, ?_, ?_, ?_, ?_, ?_, ?_, ?_, ?_, ?_, ?_, ?_, ?_, ?_, ?_, ?_, ?_, ?_, ?_, ?_, ?_, ?_, ?_, trivial⟩
      ·intro xq w11 hb11 hx K hK0
       have hK := fun v w' hb => hK0 v w' (.inl hb)
       clear hx hKc hK0
       simp only [runOf, setSlot, HRL.out, sr, Nat.reduceAdd, Nat.reduceEqDiff, if_true, if_false] at hK ⊢
       go_wp2_with (fail)
       exact hK _ _ (Below.refl _ _) rfl
      ·intro xq w11 hb11 hx K hK0
       have hK := fun v w' hb => hK0 v w' (.inl hb)
       have e139 : xq 139 = .int .i64 0 := hx 0 (by rfl) (by rfl)
       clear hx hKc hK0
       simp only [runOf, setSlot, HRL.out, sr, Nat.reduceAdd, Nat.reduceEqDiff, if_true, if_false] at hK ⊢
       simp only [e139] at hK ⊢
       clear e139
       go_wp2_with (fail)
       exact hK _ _ (Below.refl _ _) rfl
      ·intro xq w11 hb11 hx K hK0
       have hK := fun v w' hb => hK0 v w' (.inl hb)
       have e140 : xq 140 = .bool false := hx 1 (by rfl) (by rfl)
       clear hx hKc hK0
       simp only [runOf, setSlot, HRL.out, sr, Nat.reduceAdd, Nat.reduceEqDiff, if_true, if_false] at hK ⊢
       simp only [e140] at hK ⊢
       clear e140
       go_wp2_with (fail)
       exact hK _ _ (Below.refl _ _) rfl
      ·intro xq w11 hb11 hx K hK0
       have hK := fun v w' hb => hK0 v w' (.inl hb)
       have e141 : xq 141 = .bool false := hx 2 (by rfl) (by rfl)
       clear hx hKc hK0
       simp only [runOf, setSlot, HRL.out, sr, Nat.reduceAdd, Nat.reduceEqDiff, if_true, if_false] at hK ⊢
       simp only [e141] at hK ⊢
       clear e141
       go_wp2_with (fail)
       exact hK _ _ (Below.refl _ _) rfl
      ·intro xq w11 hb11 hx K hK0
       have hK := fun v w' hb => hK0 v w' (.inl hb)
       have e141 : xq 141 = .bool false := hx 2 (by rfl) (by rfl)
       have e142 : xq 142 = .int .i64 0 := hx 3 (by rfl) (by rfl)
       clear hx hKc hK0
       simp only [runOf, setSlot, HRL.out, sr, Nat.reduceAdd, Nat.reduceEqDiff, if_true, if_false] at hK ⊢
       simp only [e141, e142] at hK ⊢
       clear e141 e142
       go_wp2_with (fail)
       exact hK _ _ (Below.refl _ _) rfl
      ·intro xq w11 hb11 hx K hK0
       have hK := fun v w' hb => hK0 v w' (.inl hb)
       have e141 : xq 141 = .bool false := hx 2 (by rfl) (by rfl)
       have e143 : xq 143 = .bool false := hx 4 (by rfl) (by rfl)
       clear hx hKc hK0
       simp only [runOf, setSlot, HRL.out, sr, Nat.reduceAdd, Nat.reduceEqDiff, if_true, if_false] at hK ⊢
       simp only [e141, e143] at hK ⊢
       clear e141 e143
       go_wp2_with (fail)
       exact hK _ _ (Below.refl _ _) rfl
      ·intro xq w11 hb11 hx K hK0
       have hK := fun v w' hb => hK0 v w' (.inl hb)
       have e144 : xq 144 = .bool false := hx 5 (by rfl) (by rfl)
       clear hx hKc hK0
       simp only [runOf, setSlot, HRL.out, sr, Nat.reduceAdd, Nat.reduceEqDiff, if_true, if_false] at hK ⊢
       simp only [e144] at hK ⊢
       clear e144
       go_wp2_with (fail)
       exact hK _ _ (Below.refl _ _) rfl
      ·intro xq w11 hb11 hx K hK0
       have hK := fun v w' hb => hK0 v w' (.inl hb)
       have e145 : xq 145 = .bool false := hx 6 (by rfl) (by rfl)
       clear hx hKc hK0
       simp only [runOf, setSlot, HRL.out, sr, Nat.reduceAdd, Nat.reduceEqDiff, if_true, if_false] at hK ⊢
       simp only [e145] at hK ⊢
       clear e145
       go_wp2_with (fail)
       exact hK _ _ (Below.refl _ _) rfl
      ·intro xq w11 hb11 hx K hK0
       have hK := fun v w' hb => hK0 v w' (.inl hb)
       have e145 : xq 145 = .bool false := hx 6 (by rfl) (by rfl)
       have e146 : xq 146 = .int .i64 (k : Int) := hx 7 (by rfl) (by rfl)
       clear hx hKc hK0
       simp only [runOf, setSlot, HRL.out, sr, Nat.reduceAdd, Nat.reduceEqDiff, if_true, if_false] at hK ⊢
       simp only [e145, e146] at hK ⊢
       clear e145 e146
       go_wp2_with (fail)
       exact hK _ _ (Below.refl _ _) rfl
      ·intro xq w11 hb11 hx K hK0
       have hK := fun v w' hb => hK0 v w' (.inl hb)
       have e145 : xq 145 = .bool false := hx 6 (by rfl) (by rfl)
       have e147 : xq 147 = .pointer (some ⟨w7.heap.size, k * 2, none⟩) := hx 8 (by rfl) (by rfl)
       clear hx hKc hK0
       simp only [runOf, setSlot, HRL.out, sr, Nat.reduceAdd, Nat.reduceEqDiff, if_true, if_false] at hK ⊢
       simp only [e145, e147] at hK ⊢
       clear e145 e147
       go_wp2_with (fail)
       exact hK _ _ (Below.refl _ _) rfl
      ·intro xq w11 hb11 hx K hK0
       have hK := fun v w' hb => hK0 v w' (.inl hb)
       have e145 : xq 145 = .bool false := hx 6 (by rfl) (by rfl)
       have e148 : xq 148 = .pointer (some ⟨w7.heap.size, k * 2, none⟩) := hx 9 (by rfl) (by rfl)
       clear hx hKc hK0
       have kq : w11.cell? ⟨w7.heap.size, k * 2, none⟩ = some (.int .i64 bl) := by rw [HBL.out]; exact cell8_lo (HbT.out.up hb11.1) hlt
       simp only [runOf, setSlot, HRL.out, sr, Nat.reduceAdd, Nat.reduceEqDiff, if_true, if_false] at hK ⊢
       simp only [e145, e148] at hK ⊢
       clear e145 e148
       go_wp2_with (fail)
       exact hK _ _ (Below.refl _ _) rfl
      ·intro xq w11 hb11 hx K hK0
       have hK := fun v w' hb => hK0 v w' (.inl hb)
       have e145 : xq 145 = .bool false := hx 6 (by rfl) (by rfl)
       clear hx hKc hK0
       simp only [runOf, setSlot, HRL.out, sr, Nat.reduceAdd, Nat.reduceEqDiff, if_true, if_false] at hK ⊢
       simp only [e145] at hK ⊢
       clear e145
       go_wp2_with (fail)
       exact hK _ _ (Below.refl _ _) rfl
      ·intro xq w11 hb11 hx K hK0
       have hK := fun v w' hb => hK0 v w' (.inl hb)
       have e145 : xq 145 = .bool false := hx 6 (by rfl) (by rfl)
       have e150 : xq 150 = .int .i64 (k : Int) := hx 11 (by rfl) (by rfl)
       clear hx hKc hK0
       simp only [runOf, setSlot, HRL.out, sr, Nat.reduceAdd, Nat.reduceEqDiff, if_true, if_false] at hK ⊢
       simp only [e145, e150] at hK ⊢
       clear e145 e150
       go_wp2_with (fail)
       exact hK _ _ (Below.refl _ _) rfl
      ·intro xq w11 hb11 hx K hK0
       have hK := fun v w' hb => hK0 v w' (.inl hb)
       have e145 : xq 145 = .bool false := hx 6 (by rfl) (by rfl)
       have e151 : xq 151 = .pointer (some ⟨w6.heap.size, k * 2, none⟩) := hx 12 (by rfl) (by rfl)
       clear hx hKc hK0
       simp only [runOf, setSlot, HRL.out, sr, Nat.reduceAdd, Nat.reduceEqDiff, if_true, if_false] at hK ⊢
       simp only [e145, e151] at hK ⊢
       clear e145 e151
       go_wp2_with (fail)
       exact hK _ _ (Below.refl _ _) rfl
      ·intro xq w11 hb11 hx K hK0
       have hK := fun v w' hb => hK0 v w' (.inl hb)
       have e145 : xq 145 = .bool false := hx 6 (by rfl) (by rfl)
       have e152 : xq 152 = .pointer (some ⟨w6.heap.size, k * 2, none⟩) := hx 13 (by rfl) (by rfl)
       clear hx hKc hK0
       have kq : w11.cell? ⟨w6.heap.size, k * 2, none⟩ = some (.int .i64 al) := by rw [HAL.out]; exact cell8_lo (HaT.out.up hb11.1) hlt
       simp only [runOf, setSlot, HRL.out, sr, Nat.reduceAdd, Nat.reduceEqDiff, if_true, if_false] at hK ⊢
       simp only [e145, e152] at hK ⊢
       clear e145 e152
       go_wp2_with (fail)
       exact hK _ _ (Below.refl _ _) rfl
      ·intro xq w11 hb11 hx K hK0
       have hK := fun v w' hb => hK0 v w' (.inl hb)
       have e145 : xq 145 = .bool false := hx 6 (by rfl) (by rfl)
       have e149 : xq 149 = .int .i64 bl := hx 10 (by rfl) (by rfl)
       have e153 : xq 153 = .int .i64 al := hx 14 (by rfl) (by rfl)
       clear hx hKc hK0
       simp only [runOf, setSlot, HRL.out, sr, Nat.reduceAdd, Nat.reduceEqDiff, if_true, if_false] at hK ⊢
       simp only [e145, e149, e153] at hK ⊢
       clear e145 e149 e153
       go_wp2_with (fail)
       exact hK _ _ (Below.refl _ _) (congrArg Value.bool (decide_eq_false (by omega)))
      ·intro xq w11 hb11 hx K hK0
       have hK := fun v w' hb => hK0 v w' (.inl hb)
       have e145 : xq 145 = .bool false := hx 6 (by rfl) (by rfl)
       have e154 : xq 154 = .bool false := hx 15 (by rfl) (by rfl)
       clear hx hKc hK0
       simp only [runOf, setSlot, HRL.out, sr, Nat.reduceAdd, Nat.reduceEqDiff, if_true, if_false] at hK ⊢
       simp only [e145, e154] at hK ⊢
       clear e145 e154
       go_wp2_with (fail)
       exact hK _ _ (Below.refl _ _) rfl
      ·intro xq w11 hb11 hx K hK0
       have hK := fun v w' hb => hK0 v w' (.inl hb)
       have e155 : xq 155 = .bool false := hx 16 (by rfl) (by rfl)
       clear hx hKc hK0
       simp only [runOf, setSlot, HRL.out, sr, Nat.reduceAdd, Nat.reduceEqDiff, if_true, if_false] at hK ⊢
       simp only [e155] at hK ⊢
       clear e155
       go_wp2_with (fail)
       exact hK _ _ (Below.refl _ _) rfl
      ·intro xq w11 hb11 hx K hK0
       have hK := fun v w' hb => hK0 v w' (.inl hb)
       have e156 : xq 156 = .bool false := hx 17 (by rfl) (by rfl)
       clear hx hKc hK0
       simp only [runOf, setSlot, HRL.out, sr, Nat.reduceAdd, Nat.reduceEqDiff, if_true, if_false] at hK ⊢
       simp only [e156] at hK ⊢
       clear e156
       go_wp2_with (fail)
       exact hK _ _ (Below.refl _ _) rfl
      ·intro xq w11 hb11 hx K hK0
       have hK := fun v w' hb => hK0 v w' (.inl hb)
       have e156 : xq 156 = .bool false := hx 17 (by rfl) (by rfl)
       have e157 : xq 157 = .int .i64 (k : Int) := hx 18 (by rfl) (by rfl)
       clear hx hKc hK0
       simp only [runOf, setSlot, HRL.out, sr, Nat.reduceAdd, Nat.reduceEqDiff, if_true, if_false] at hK ⊢
       simp only [e156, e157] at hK ⊢
       clear e156 e157
       go_wp2_with (fail)
       exact hK _ _ (Below.refl _ _) rfl
      ·intro xq w11 hb11 hx K hK0
       have hK := fun v w' hb => hK0 v w' (.inl hb)
       have e156 : xq 156 = .bool false := hx 17 (by rfl) (by rfl)
       have e158 : xq 158 = .pointer (some ⟨w7.heap.size, k * 2, none⟩) := hx 19 (by rfl) (by rfl)
       clear hx hKc hK0
       simp only [runOf, setSlot, HRL.out, sr, Nat.reduceAdd, Nat.reduceEqDiff, if_true, if_false] at hK ⊢
       simp only [e156, e158] at hK ⊢
       clear e156 e158
       go_wp2_with (fail)
       exact hK _ _ (Below.refl _ _) rfl
      ·intro xq w11 hb11 hx K hK0
       have hK := fun v w' hb => hK0 v w' (.inl hb)
       have e156 : xq 156 = .bool false := hx 17 (by rfl) (by rfl)
       have e159 : xq 159 = .pointer (some ⟨w7.heap.size, k * 2 + 1, none⟩) := hx 20 (by rfl) (by rfl)
       clear hx hKc hK0
       have kq : w11.cell? ⟨w7.heap.size, k * 2 + 1, none⟩ = some (.int .i64 bh) := by rw [HBH.out]; exact cell8_hi (HbT.out.up hb11.1) hlt
       simp only [runOf, setSlot, HRL.out, sr, Nat.reduceAdd, Nat.reduceEqDiff, if_true, if_false] at hK ⊢
       simp only [e156, e159] at hK ⊢
       clear e156 e159
       go_wp2_with (fail)
       exact hK _ _ (Below.refl _ _) rfl
      ·intro xq w11 hb11 hx K hK0
       have hK := fun v w' hb => hK0 v w' (.inl hb)
       have e156 : xq 156 = .bool false := hx 17 (by rfl) (by rfl)
       clear hx hKc hK0
       simp only [runOf, setSlot, HRL.out, sr, Nat.reduceAdd, Nat.reduceEqDiff, if_true, if_false] at hK ⊢
       simp only [e156] at hK ⊢
       clear e156
       go_wp2_with (fail)
       exact hK _ _ (Below.refl _ _) rfl
      ·intro xq w11 hb11 hx K hK0
       have hK := fun v w' hb => hK0 v w' (.inl hb)
       have e156 : xq 156 = .bool false := hx 17 (by rfl) (by rfl)
       have e161 : xq 161 = .int .i64 (k : Int) := hx 22 (by rfl) (by rfl)
       clear hx hKc hK0
       simp only [runOf, setSlot, HRL.out, sr, Nat.reduceAdd, Nat.reduceEqDiff, if_true, if_false] at hK ⊢
       simp only [e156, e161] at hK ⊢
       clear e156 e161
       go_wp2_with (fail)
       exact hK _ _ (Below.refl _ _) rfl
      ·intro xq w11 hb11 hx K hK0
       have hK := fun v w' hb => hK0 v w' (.inl hb)
       have e156 : xq 156 = .bool false := hx 17 (by rfl) (by rfl)
       have e162 : xq 162 = .pointer (some ⟨w6.heap.size, k * 2, none⟩) := hx 23 (by rfl) (by rfl)
       clear hx hKc hK0
       simp only [runOf, setSlot, HRL.out, sr, Nat.reduceAdd, Nat.reduceEqDiff, if_true, if_false] at hK ⊢
       simp only [e156, e162] at hK ⊢
       clear e156 e162
       go_wp2_with (fail)
       exact hK _ _ (Below.refl _ _) rfl
      ·intro xq w11 hb11 hx K hK0
       have hK := fun v w' hb => hK0 v w' (.inl hb)
       have e156 : xq 156 = .bool false := hx 17 (by rfl) (by rfl)
       have e163 : xq 163 = .pointer (some ⟨w6.heap.size, k * 2 + 1, none⟩) := hx 24 (by rfl) (by rfl)
       clear hx hKc hK0
       have kq : w11.cell? ⟨w6.heap.size, k * 2 + 1, none⟩ = some (.int .i64 ah) := by rw [HAH.out]; exact cell8_hi (HaT.out.up hb11.1) hlt
       simp only [runOf, setSlot, HRL.out, sr, Nat.reduceAdd, Nat.reduceEqDiff, if_true, if_false] at hK ⊢
       simp only [e156, e163] at hK ⊢
       clear e156 e163
       go_wp2_with (fail)
       exact hK _ _ (Below.refl _ _) rfl
      ·intro xq w11 hb11 hx K hK0
       have hK := fun v w' hb => hK0 v w' (.inl hb)
       have e156 : xq 156 = .bool false := hx 17 (by rfl) (by rfl)
       have e160 : xq 160 = .int .i64 bh := hx 21 (by rfl) (by rfl)
       have e164 : xq 164 = .int .i64 ah := hx 25 (by rfl) (by rfl)
       clear hx hKc hK0
       simp only [runOf, setSlot, HRL.out, sr, Nat.reduceAdd, Nat.reduceEqDiff, if_true, if_false] at hK ⊢
       simp only [e156, e160, e164] at hK ⊢
       clear e156 e160 e164
       go_wp2_with (fail)
       exact hK _ _ (Below.refl _ _) (congrArg Value.bool (decide_eq_false (by omega)))
      ·intro xq w11 hb11 hx K hK0
       have hK := fun v w' hb => hK0 v w' (.inl hb)
       have e156 : xq 156 = .bool false := hx 17 (by rfl) (by rfl)
       have e165 : xq 165 = .bool false := hx 26 (by rfl) (by rfl)
       clear hx hKc hK0
       simp only [runOf, setSlot, HRL.out, sr, Nat.reduceAdd, Nat.reduceEqDiff, if_true, if_false] at hK ⊢
       simp only [e156, e165] at hK ⊢
       clear e156 e165
       go_wp2_with (fail)
       exact hK _ _ (Below.refl _ _) rfl
      ·intro xq w11 hb11 hx K hK0
       have hK := fun v w' hb => hK0 v w' (.inl hb)
       have e166 : xq 166 = .bool false := hx 27 (by rfl) (by rfl)
       clear hx hKc hK0
       simp only [runOf, setSlot, HRL.out, sr, Nat.reduceAdd, Nat.reduceEqDiff, if_true, if_false] at hK ⊢
       simp only [e166] at hK ⊢
       clear e166
       go_wp2_with (fail)
       exact hK _ _ (Below.refl _ _) rfl
      ·intro xq w11 hb11 hx K hK0
       have hK := fun v w' hb => hK0 v w' (.inl hb)
       have e167 : xq 167 = .bool false := hx 28 (by rfl) (by rfl)
       clear hx hKc hK0
       simp only [runOf, setSlot, HRL.out, sr, Nat.reduceAdd, Nat.reduceEqDiff, if_true, if_false] at hK ⊢
       simp only [e167] at hK ⊢
       clear e167
       go_wp2_with (fail)
       exact hK _ _ (Below.refl _ _) rfl
      ·intro xq w11 hb11 hx K hK0
       have hK := fun v w' hb => hK0 v w' (.inl hb)
       have e167 : xq 167 = .bool false := hx 28 (by rfl) (by rfl)
       have e168 : xq 168 = .pointer (some ⟨wT.heap.size, 0, none⟩) := hx 29 (by rfl) (by rfl)
       clear hx hKc hK0
       have kq : w11.cell? ⟨wT.heap.size, 0, none⟩ = some (.int .i64 tl) := hb11.2.cell 0
       simp only [runOf, setSlot, HRL.out, sr, Nat.reduceAdd, Nat.reduceEqDiff, if_true, if_false] at hK ⊢
       simp only [e167, e168] at hK ⊢
       clear e167 e168
       go_wp2_with (fail)
       exact hK _ _ (Below.refl _ _) rfl
      ·intro xq w11 hb11 hx K hK0
       have hK := fun v w' hb => hK0 v w' (.inl hb)
       have e167 : xq 167 = .bool false := hx 28 (by rfl) (by rfl)
       clear hx hKc hK0
       simp only [runOf, setSlot, HRL.out, sr, Nat.reduceAdd, Nat.reduceEqDiff, if_true, if_false] at hK ⊢
       simp only [e167] at hK ⊢
       clear e167
       go_wp2_with (fail)
       exact hK _ _ (Below.refl _ _) rfl
      ·intro xq w11 hb11 hx K hK0
       have hK := fun v w' hb => hK0 v w' (.inl hb)
       have e167 : xq 167 = .bool false := hx 28 (by rfl) (by rfl)
       have e170 : xq 170 = .pointer (some ⟨wS.heap.size, 0, none⟩) := hx 31 (by rfl) (by rfl)
       clear hx hKc hK0
       have kq : w11.cell? ⟨wS.heap.size, 0, none⟩ = some (.int .i64 sl) := (HsT.out.up hb11.1).cell 0
       simp only [runOf, setSlot, HRL.out, sr, Nat.reduceAdd, Nat.reduceEqDiff, if_true, if_false] at hK ⊢
       simp only [e167, e170] at hK ⊢
       clear e167 e170
       go_wp2_with (fail)
       exact hK _ _ (Below.refl _ _) rfl
      ·intro xq w11 hb11 hx K hK0
       have hK := fun v w' hb => hK0 v w' (.inl hb)
       have e167 : xq 167 = .bool false := hx 28 (by rfl) (by rfl)
       have e169 : xq 169 = .int .i64 tl := hx 30 (by rfl) (by rfl)
       have e171 : xq 171 = .int .i64 sl := hx 32 (by rfl) (by rfl)
       clear hx hKc hK0
       simp only [runOf, setSlot, HRL.out, sr, Nat.reduceAdd, Nat.reduceEqDiff, if_true, if_false] at hK ⊢
       simp only [e167, e169, e171] at hK ⊢
       clear e167 e169 e171
       go_wp2_with (fail)
       exact hK _ _ (Below.refl _ _) (congrArg Value.bool (decide_eq_false (by omega)))
      ·intro xq w11 hb11 hx K hK0
       have hK := fun v w' hb => hK0 v w' (.inl hb)
       have e167 : xq 167 = .bool false := hx 28 (by rfl) (by rfl)
       have e172 : xq 172 = .bool false := hx 33 (by rfl) (by rfl)
       clear hx hKc hK0
       simp only [runOf, setSlot, HRL.out, sr, Nat.reduceAdd, Nat.reduceEqDiff, if_true, if_false] at hK ⊢
       simp only [e167, e172] at hK ⊢
       clear e167 e172
       go_wp2_with (fail)
       exact hK _ _ (Below.refl _ _) rfl
      ·intro xq w11 hb11 hx K hK0
       have hK := fun v w' hb => hK0 v w' (.inl hb)
       have e173 : xq 173 = .bool false := hx 34 (by rfl) (by rfl)
       clear hx hKc hK0
       simp only [runOf, setSlot, HRL.out, sr, Nat.reduceAdd, Nat.reduceEqDiff, if_true, if_false] at hK ⊢
       simp only [e173] at hK ⊢
       clear e173
       go_wp2_with (fail)
       exact hK _ _ (Below.refl _ _) rfl
      ·intro xq w11 hb11 hx K hK0
       have hK := fun v w' hb => hK0 v w' (.inl hb)
       have e174 : xq 174 = .bool false := hx 35 (by rfl) (by rfl)
       clear hx hKc hK0
       simp only [runOf, setSlot, HRL.out, sr, Nat.reduceAdd, Nat.reduceEqDiff, if_true, if_false] at hK ⊢
       simp only [e174] at hK ⊢
       clear e174
       go_wp2_with (fail)
       exact hK _ _ (Below.refl _ _) rfl
      ·intro xq w11 hb11 hx K hK0
       have hK := fun v w' hb => hK0 v w' (.inl hb)
       have e174 : xq 174 = .bool false := hx 35 (by rfl) (by rfl)
       have e175 : xq 175 = .pointer (some ⟨wT.heap.size, 1, none⟩) := hx 36 (by rfl) (by rfl)
       clear hx hKc hK0
       have kq : w11.cell? ⟨wT.heap.size, 1, none⟩ = some (.int .i64 th) := hb11.2.cell 1
       simp only [runOf, setSlot, HRL.out, sr, Nat.reduceAdd, Nat.reduceEqDiff, if_true, if_false] at hK ⊢
       simp only [e174, e175] at hK ⊢
       clear e174 e175
       go_wp2_with (fail)
       exact hK _ _ (Below.refl _ _) rfl
      ·intro xq w11 hb11 hx K hK0
       have hK := fun v w' hb => hK0 v w' (.inl hb)
       have e174 : xq 174 = .bool false := hx 35 (by rfl) (by rfl)
       clear hx hKc hK0
       simp only [runOf, setSlot, HRL.out, sr, Nat.reduceAdd, Nat.reduceEqDiff, if_true, if_false] at hK ⊢
       simp only [e174] at hK ⊢
       clear e174
       go_wp2_with (fail)
       exact hK _ _ (Below.refl _ _) rfl
      ·intro xq w11 hb11 hx K hK0
       have hK := fun v w' hb => hK0 v w' (.inl hb)
       have e174 : xq 174 = .bool false := hx 35 (by rfl) (by rfl)
       have e177 : xq 177 = .pointer (some ⟨wS.heap.size, 1, none⟩) := hx 38 (by rfl) (by rfl)
       clear hx hKc hK0
       have kq : w11.cell? ⟨wS.heap.size, 1, none⟩ = some (.int .i64 sh) := (HsT.out.up hb11.1).cell 1
       simp only [runOf, setSlot, HRL.out, sr, Nat.reduceAdd, Nat.reduceEqDiff, if_true, if_false] at hK ⊢
       simp only [e174, e177] at hK ⊢
       clear e174 e177
       go_wp2_with (fail)
       exact hK _ _ (Below.refl _ _) rfl
      ·intro xq w11 hb11 hx K hK0
       have hK := fun v w' hb => hK0 v w' (.inl hb)
       have e174 : xq 174 = .bool false := hx 35 (by rfl) (by rfl)
       have e176 : xq 176 = .int .i64 th := hx 37 (by rfl) (by rfl)
       have e178 : xq 178 = .int .i64 sh := hx 39 (by rfl) (by rfl)
       clear hx hKc hK0
       simp only [runOf, setSlot, HRL.out, sr, Nat.reduceAdd, Nat.reduceEqDiff, if_true, if_false] at hK ⊢
       simp only [e174, e176, e178] at hK ⊢
       clear e174 e176 e178
       go_wp2_with (fail)
       exact hK _ _ (Below.refl _ _) (congrArg Value.bool (decide_eq_false (by omega)))
      ·intro xq w11 hb11 hx K hK0
       have hK := fun v w' hb => hK0 v w' (.inl hb)
       have e174 : xq 174 = .bool false := hx 35 (by rfl) (by rfl)
       have e179 : xq 179 = .bool false := hx 40 (by rfl) (by rfl)
       clear hx hKc hK0
       simp only [runOf, setSlot, HRL.out, sr, Nat.reduceAdd, Nat.reduceEqDiff, if_true, if_false] at hK ⊢
       simp only [e174, e179] at hK ⊢
       clear e174 e179
       go_wp2_with (fail)
       exact hK _ _ (Below.refl _ _) rfl
      ·intro xq w11 hb11 hx K hK0
       have hK := fun v w' hb => hK0 v w' (.inl hb)
       have e180 : xq 180 = .bool false := hx 41 (by rfl) (by rfl)
       clear hx hKc hK0
       simp only [runOf, setSlot, HRL.out, sr, Nat.reduceAdd, Nat.reduceEqDiff, if_true, if_false] at hK ⊢
       simp only [e180] at hK ⊢
       clear e180
       go_wp2_with (fail)
       exact hK _ _ (Below.refl _ _) rfl
      ·intro xq w11 hb11 hx K hK0
       have hK := fun v w' hb => hK0 v w' (.inl hb)
       have e181 : xq 181 = .bool false := hx 42 (by rfl) (by rfl)
       clear hx hKc hK0
       simp only [runOf, setSlot, HRL.out, sr, Nat.reduceAdd, Nat.reduceEqDiff, if_true, if_false] at hK ⊢
       simp only [e181] at hK ⊢
       clear e181
       go_wp2_with (fail)
       exact hK _ _ (Below.refl _ _) rfl
      ·intro xq w11 hb11 hx K hK0
       have hK := fun v w' hb => hK0 v w' (.inl hb)
       have e181 : xq 181 = .bool false := hx 42 (by rfl) (by rfl)
       have e182 : xq 182 = .pointer (some ⟨wT.heap.size, 0, none⟩) := hx 43 (by rfl) (by rfl)
       clear hx hKc hK0
       have kq : w11.cell? ⟨wT.heap.size, 0, none⟩ = some (.int .i64 tl) := hb11.2.cell 0
       simp only [runOf, setSlot, HRL.out, sr, Nat.reduceAdd, Nat.reduceEqDiff, if_true, if_false] at hK ⊢
       simp only [e181, e182] at hK ⊢
       clear e181 e182
       go_wp2_with (fail)
       exact hK _ _ (Below.refl _ _) rfl
      ·intro xq w11 hb11 hx K hK0
       have hK := fun v w' hb => hK0 v w' (.inl hb)
       have e181 : xq 181 = .bool false := hx 42 (by rfl) (by rfl)
       clear hx hKc hK0
       simp only [runOf, setSlot, HRL.out, sr, Nat.reduceAdd, Nat.reduceEqDiff, if_true, if_false] at hK ⊢
       simp only [e181] at hK ⊢
       clear e181
       go_wp2_with (fail)
       exact hK _ _ (Below.refl _ _) rfl
      ·intro xq w11 hb11 hx K hK0
       have hK := fun v w' hb => hK0 v w' (.inl hb)
       have e181 : xq 181 = .bool false := hx 42 (by rfl) (by rfl)
       have e184 : xq 184 = .pointer (some ⟨wT.heap.size, 1, none⟩) := hx 45 (by rfl) (by rfl)
       clear hx hKc hK0
       have kq : w11.cell? ⟨wT.heap.size, 1, none⟩ = some (.int .i64 th) := hb11.2.cell 1
       simp only [runOf, setSlot, HRL.out, sr, Nat.reduceAdd, Nat.reduceEqDiff, if_true, if_false] at hK ⊢
       simp only [e181, e184] at hK ⊢
       clear e181 e184
       go_wp2_with (fail)
       exact hK _ _ (Below.refl _ _) rfl
      ·intro xq w11 hb11 hx K hK0
       have hK := fun v w' hb => hK0 v w' (.inl hb)
       have e181 : xq 181 = .bool false := hx 42 (by rfl) (by rfl)
       have e183 : xq 183 = .int .i64 tl := hx 44 (by rfl) (by rfl)
       have e185 : xq 185 = .int .i64 th := hx 46 (by rfl) (by rfl)
       clear hx hKc hK0
       simp only [runOf, setSlot, HRL.out, sr, Nat.reduceAdd, Nat.reduceEqDiff, if_true, if_false] at hK ⊢
       simp only [e181, e183, e185] at hK ⊢
       clear e181 e183 e185
       go_wp2_with (fail)
       exact hK _ _ (Below.refl _ _) (congrArg Value.bool (decide_eq_false (by omega)))
      ·intro xq w11 hb11 hx K hK0
       have hK := fun v w' hb => hK0 v w' (.inl hb)
       have e181 : xq 181 = .bool false := hx 42 (by rfl) (by rfl)
       have e186 : xq 186 = .bool false := hx 47 (by rfl) (by rfl)
       clear hx hKc hK0
       simp only [runOf, setSlot, HRL.out, sr, Nat.reduceAdd, Nat.reduceEqDiff, if_true, if_false] at hK ⊢
       simp only [e181, e186] at hK ⊢
       clear e181 e186
       go_wp2_with (fail)
       exact hK _ _ (Below.refl _ _) rfl
      ·intro xq w11 hb11 hx K hK0
       have hK := fun v w' hb => hK0 v w' (.inl hb)
       have e187 : xq 187 = .bool false := hx 48 (by rfl) (by rfl)
       clear hx hKc hK0
       simp only [runOf, setSlot, HRL.out, sr, Nat.reduceAdd, Nat.reduceEqDiff, if_true, if_false] at hK ⊢
       simp only [e187] at hK ⊢
       clear e187
       go_wp2_with (fail)
       exact hK _ _ (Below.refl _ _) rfl
      ·intro xq w11 hb11 hx K hK0
       have hK := fun v w' hb => hK0 v w' (.inl hb)
       have e188 : xq 188 = .bool false := hx 49 (by rfl) (by rfl)
       clear hx hKc hK0
       simp only [runOf, setSlot, HRL.out, sr, Nat.reduceAdd, Nat.reduceEqDiff, if_true, if_false] at hK ⊢
       simp only [e188] at hK ⊢
       clear e188
       go_wp2_with (fail)
       exact hK _ _ (Below.refl _ _) rfl
      ·intro xq w11 hb11 hx K hK0
       have hK := fun v w' hb => hK0 v w' (.inl hb)
       have e188 : xq 188 = .bool false := hx 49 (by rfl) (by rfl)
       have e189 : xq 189 = .int .i64 (k : Int) := hx 50 (by rfl) (by rfl)
       clear hx hKc hK0
       simp only [runOf, setSlot, HRL.out, sr, Nat.reduceAdd, Nat.reduceEqDiff, if_true, if_false] at hK ⊢
       simp only [e188, e189] at hK ⊢
       clear e188 e189
       go_wp2_with (fail)
       exact hK _ _ (Below.refl _ _) rfl
      ·intro xq w11 hb11 hx K hK0
       have hK := fun v w' hb => hK0 v w' (.inl hb)
       have e188 : xq 188 = .bool false := hx 49 (by rfl) (by rfl)
       have e190 : xq 190 = .pointer (some ⟨w2.heap.size + 1 + 1, k, none⟩) := hx 51 (by rfl) (by rfl)
       clear hx hKc hK0
       have kq : w11.cell? ⟨w2.heap.size + 1 + 1, k, none⟩ = some (.int .i64 rk) := by rw [HRK.out]; exact cell4_at (HmT.out.up hb11.1) hlt
       simp only [runOf, setSlot, HRL.out, sr, Nat.reduceAdd, Nat.reduceEqDiff, if_true, if_false] at hK ⊢
       simp only [e188, e190] at hK ⊢
       clear e188 e190
       go_wp2_with (fail)
       exact hK _ _ (Below.refl _ _) rfl
      ·intro xq w11 hb11 hx K hK0
       have hK := fun v w' hb => hK0 v w' (.inl hb)
       have e188 : xq 188 = .bool false := hx 49 (by rfl) (by rfl)
       clear hx hKc hK0
       simp only [runOf, setSlot, HRL.out, sr, Nat.reduceAdd, Nat.reduceEqDiff, if_true, if_false] at hK ⊢
       simp only [e188] at hK ⊢
       clear e188
       go_wp2_with (fail)
       exact hK _ _ (Below.refl _ _) rfl
      ·intro xq w11 hb11 hx K hK0
       have hK := fun v w' hb => hK0 v w' (.inl hb)
       have e188 : xq 188 = .bool false := hx 49 (by rfl) (by rfl)
       have e192 : xq 192 = .int .i64 (k : Int) := hx 53 (by rfl) (by rfl)
       clear hx hKc hK0
       simp only [runOf, setSlot, HRL.out, sr, Nat.reduceAdd, Nat.reduceEqDiff, if_true, if_false] at hK ⊢
       simp only [e188, e192] at hK ⊢
       clear e188 e192
       go_wp2_with (fail)
       exact hK _ _ (Below.refl _ _) rfl
      ·intro xq w11 hb11 hx K hK0
       have hK := fun v w' hb => hK0 v w' (.inl hb)
       have e188 : xq 188 = .bool false := hx 49 (by rfl) (by rfl)
       have e193 : xq 193 = .pointer (some ⟨w7.heap.size, k * 2, none⟩) := hx 54 (by rfl) (by rfl)
       clear hx hKc hK0
       simp only [runOf, setSlot, HRL.out, sr, Nat.reduceAdd, Nat.reduceEqDiff, if_true, if_false] at hK ⊢
       simp only [e188, e193] at hK ⊢
       clear e188 e193
       go_wp2_with (fail)
       exact hK _ _ (Below.refl _ _) rfl
      ·intro xq w11 hb11 hx K hK0
       have hK := fun v w' hb => hK0 v w' (.inl hb)
       have e188 : xq 188 = .bool false := hx 49 (by rfl) (by rfl)
       have e194 : xq 194 = .pointer (some ⟨w7.heap.size, k * 2, none⟩) := hx 55 (by rfl) (by rfl)
       clear hx hKc hK0
       have kq : w11.cell? ⟨w7.heap.size, k * 2, none⟩ = some (.int .i64 bl) := by rw [HBL.out]; exact cell8_lo (HbT.out.up hb11.1) hlt
       simp only [runOf, setSlot, HRL.out, sr, Nat.reduceAdd, Nat.reduceEqDiff, if_true, if_false] at hK ⊢
       simp only [e188, e194] at hK ⊢
       clear e188 e194
       go_wp2_with (fail)
       exact hK _ _ (Below.refl _ _) rfl
      ·intro xq w11 hb11 hx K hK0
       have hK := fun v w' hb => hK0 v w' (.inl hb)
       have e188 : xq 188 = .bool false := hx 49 (by rfl) (by rfl)
       have e191 : xq 191 = .int .i64 rk := hx 52 (by rfl) (by rfl)
       have e195 : xq 195 = .int .i64 bl := hx 56 (by rfl) (by rfl)
       clear hx hKc hK0
       simp only [runOf, setSlot, HRL.out, sr, Nat.reduceAdd, Nat.reduceEqDiff, if_true, if_false] at hK ⊢
       simp only [e188, e191, e195] at hK ⊢
       clear e188 e191 e195
       go_wp2_with (fail)
       exact hK _ _ (Below.refl _ _) (congrArg Value.bool (decide_eq_false (by omega)))
      ·intro xq w11 hb11 hx K hK0
       have hK := fun v w' hb => hK0 v w' (.inl hb)
       have e188 : xq 188 = .bool false := hx 49 (by rfl) (by rfl)
       have e196 : xq 196 = .bool false := hx 57 (by rfl) (by rfl)
       clear hx hKc hK0
       simp only [runOf, setSlot, HRL.out, sr, Nat.reduceAdd, Nat.reduceEqDiff, if_true, if_false] at hK ⊢
       simp only [e188, e196] at hK ⊢
       clear e188 e196
       go_wp2_with (fail)
       exact hK _ _ (Below.refl _ _) rfl
      ·intro xq w11 hb11 hx K hK0
       have hK := fun v w' hb => hK0 v w' (.inl hb)
       have e197 : xq 197 = .bool false := hx 58 (by rfl) (by rfl)
       clear hx hKc hK0
       simp only [runOf, setSlot, HRL.out, sr, Nat.reduceAdd, Nat.reduceEqDiff, if_true, if_false] at hK ⊢
       simp only [e197] at hK ⊢
       clear e197
       go_wp2_with (fail)
       exact hK _ _ (Below.refl _ _) rfl
      ·intro xq w11 hb11 hx K hK0
       have hK := fun v w' hb => hK0 v w' (.inl hb)
       have e198 : xq 198 = .bool false := hx 59 (by rfl) (by rfl)
       clear hx hKc hK0
       simp only [runOf, setSlot, HRL.out, sr, Nat.reduceAdd, Nat.reduceEqDiff, if_true, if_false] at hK ⊢
       simp only [e198] at hK ⊢
       clear e198
       go_wp2_with (fail)
       exact hK _ _ (Below.refl _ _) rfl
      ·intro xq w11 hb11 hx K hK0
       have hK := fun v w' hb => hK0 v w' (.inl hb)
       have e198 : xq 198 = .bool false := hx 59 (by rfl) (by rfl)
       have e199 : xq 199 = .int .i64 (k : Int) := hx 60 (by rfl) (by rfl)
       clear hx hKc hK0
       simp only [runOf, setSlot, HRL.out, sr, Nat.reduceAdd, Nat.reduceEqDiff, if_true, if_false] at hK ⊢
       simp only [e198, e199] at hK ⊢
       clear e198 e199
       go_wp2_with (fail)
       exact hK _ _ (Below.refl _ _) rfl
      ·intro xq w11 hb11 hx K hK0
       have hK := fun v w' hb => hK0 v w' (.inl hb)
       have e198 : xq 198 = .bool false := hx 59 (by rfl) (by rfl)
       have e200 : xq 200 = .pointer (some ⟨w2.heap.size + 1 + 1, k, none⟩) := hx 61 (by rfl) (by rfl)
       clear hx hKc hK0
       have kq : w11.cell? ⟨w2.heap.size + 1 + 1, k, none⟩ = some (.int .i64 rk) := by rw [HRK.out]; exact cell4_at (HmT.out.up hb11.1) hlt
       simp only [runOf, setSlot, HRL.out, sr, Nat.reduceAdd, Nat.reduceEqDiff, if_true, if_false] at hK ⊢
       simp only [e198, e200] at hK ⊢
       clear e198 e200
       go_wp2_with (fail)
       exact hK _ _ (Below.refl _ _) rfl
      ·intro xq w11 hb11 hx K hK0
       have hK := fun v w' hb => hK0 v w' (.inl hb)
       have e198 : xq 198 = .bool false := hx 59 (by rfl) (by rfl)
       clear hx hKc hK0
       simp only [runOf, setSlot, HRL.out, sr, Nat.reduceAdd, Nat.reduceEqDiff, if_true, if_false] at hK ⊢
       simp only [e198] at hK ⊢
       clear e198
       go_wp2_with (fail)
       exact hK _ _ (Below.refl _ _) rfl
      ·intro xq w11 hb11 hx K hK0
       have hK := fun v w' hb => hK0 v w' (.inl hb)
       have e198 : xq 198 = .bool false := hx 59 (by rfl) (by rfl)
       have e202 : xq 202 = .int .i64 (k : Int) := hx 63 (by rfl) (by rfl)
       clear hx hKc hK0
       simp only [runOf, setSlot, HRL.out, sr, Nat.reduceAdd, Nat.reduceEqDiff, if_true, if_false] at hK ⊢
       simp only [e198, e202] at hK ⊢
       clear e198 e202
       go_wp2_with (fail)
       exact hK _ _ (Below.refl _ _) rfl
      ·intro xq w11 hb11 hx K hK0
       have hK := fun v w' hb => hK0 v w' (.inl hb)
       have e198 : xq 198 = .bool false := hx 59 (by rfl) (by rfl)
       have e203 : xq 203 = .pointer (some ⟨w7.heap.size, k * 2, none⟩) := hx 64 (by rfl) (by rfl)
       clear hx hKc hK0
       simp only [runOf, setSlot, HRL.out, sr, Nat.reduceAdd, Nat.reduceEqDiff, if_true, if_false] at hK ⊢
       simp only [e198, e203] at hK ⊢
       clear e198 e203
       go_wp2_with (fail)
       exact hK _ _ (Below.refl _ _) rfl
      ·intro xq w11 hb11 hx K hK0
       have hK := fun v w' hb => hK0 v w' (.inl hb)
       have e198 : xq 198 = .bool false := hx 59 (by rfl) (by rfl)
       have e204 : xq 204 = .pointer (some ⟨w7.heap.size, k * 2 + 1, none⟩) := hx 65 (by rfl) (by rfl)
       clear hx hKc hK0
       have kq : w11.cell? ⟨w7.heap.size, k * 2 + 1, none⟩ = some (.int .i64 bh) := by rw [HBH.out]; exact cell8_hi (HbT.out.up hb11.1) hlt
       simp only [runOf, setSlot, HRL.out, sr, Nat.reduceAdd, Nat.reduceEqDiff, if_true, if_false] at hK ⊢
       simp only [e198, e204] at hK ⊢
       clear e198 e204
       go_wp2_with (fail)
       exact hK _ _ (Below.refl _ _) rfl
      ·intro xq w11 hb11 hx K hK0
       have hK := fun v w' hb => hK0 v w' (.inl hb)
       have e198 : xq 198 = .bool false := hx 59 (by rfl) (by rfl)
       have e201 : xq 201 = .int .i64 rk := hx 62 (by rfl) (by rfl)
       have e205 : xq 205 = .int .i64 bh := hx 66 (by rfl) (by rfl)
       clear hx hKc hK0
       simp only [runOf, setSlot, HRL.out, sr, Nat.reduceAdd, Nat.reduceEqDiff, if_true, if_false] at hK ⊢
       simp only [e198, e201, e205] at hK ⊢
       clear e198 e201 e205
       go_wp2_with (fail)
       exact hK _ _ (Below.refl _ _) (congrArg Value.bool (decide_eq_false (by omega)))
      ·intro xq w11 hb11 hx K hK0
       have hK := fun v w' hb => hK0 v w' (.inl hb)
       have e198 : xq 198 = .bool false := hx 59 (by rfl) (by rfl)
       have e206 : xq 206 = .bool false := hx 67 (by rfl) (by rfl)
       clear hx hKc hK0
       simp only [runOf, setSlot, HRL.out, sr, Nat.reduceAdd, Nat.reduceEqDiff, if_true, if_false] at hK ⊢
       simp only [e198, e206] at hK ⊢
       clear e198 e206
       go_wp2_with (fail)
       exact hK _ _ (Below.refl _ _) rfl
     ·intro xq w11 hb11 hx
      have e139 : xq 139 = .int .i64 0 := hx 0 (by decide)
      have e140 : xq 140 = .bool false := hx 1 (by decide)
      have e141 : xq 141 = .bool false := hx 2 (by decide)
      have e142 : xq 142 = .int .i64 0 := hx 3 (by decide)
      have e143 : xq 143 = .bool false := hx 4 (by decide)
      have e144 : xq 144 = .bool false := hx 5 (by decide)
      have e145 : xq 145 = .bool false := hx 6 (by decide)
      have e146 : xq 146 = .int .i64 (k : Int) := hx 7 (by decide)
      have e147 : xq 147 = .pointer (some ⟨w7.heap.size, k * 2, none⟩) := hx 8 (by decide)
      have e148 : xq 148 = .pointer (some ⟨w7.heap.size, k * 2, none⟩) := hx 9 (by decide)
      have e149 : xq 149 = .int .i64 bl := hx 10 (by decide)
      have e150 : xq 150 = .int .i64 (k : Int) := hx 11 (by decide)
      have e151 : xq 151 = .pointer (some ⟨w6.heap.size, k * 2, none⟩) := hx 12 (by decide)
      have e152 : xq 152 = .pointer (some ⟨w6.heap.size, k * 2, none⟩) := hx 13 (by decide)
      have e153 : xq 153 = .int .i64 al := hx 14 (by decide)
      have e154 : xq 154 = .bool false := hx 15 (by decide)
      have e155 : xq 155 = .bool false := hx 16 (by decide)
      have e156 : xq 156 = .bool false := hx 17 (by decide)
      have e157 : xq 157 = .int .i64 (k : Int) := hx 18 (by decide)
      have e158 : xq 158 = .pointer (some ⟨w7.heap.size, k * 2, none⟩) := hx 19 (by decide)
      have e159 : xq 159 = .pointer (some ⟨w7.heap.size, k * 2 + 1, none⟩) := hx 20 (by decide)
      have e160 : xq 160 = .int .i64 bh := hx 21 (by decide)
      have e161 : xq 161 = .int .i64 (k : Int) := hx 22 (by decide)
      have e162 : xq 162 = .pointer (some ⟨w6.heap.size, k * 2, none⟩) := hx 23 (by decide)
      have e163 : xq 163 = .pointer (some ⟨w6.heap.size, k * 2 + 1, none⟩) := hx 24 (by decide)
      have e164 : xq 164 = .int .i64 ah := hx 25 (by decide)
      have e165 : xq 165 = .bool false := hx 26 (by decide)
      have e166 : xq 166 = .bool false := hx 27 (by decide)
      have e167 : xq 167 = .bool false := hx 28 (by decide)
      have e168 : xq 168 = .pointer (some ⟨wT.heap.size, 0, none⟩) := hx 29 (by decide)
      have e169 : xq 169 = .int .i64 tl := hx 30 (by decide)
      have e170 : xq 170 = .pointer (some ⟨wS.heap.size, 0, none⟩) := hx 31 (by decide)
      have e171 : xq 171 = .int .i64 sl := hx 32 (by decide)
      have e172 : xq 172 = .bool false := hx 33 (by decide)
      have e173 : xq 173 = .bool false := hx 34 (by decide)
      have e174 : xq 174 = .bool false := hx 35 (by decide)
      have e175 : xq 175 = .pointer (some ⟨wT.heap.size, 1, none⟩) := hx 36 (by decide)
      have e176 : xq 176 = .int .i64 th := hx 37 (by decide)
      have e177 : xq 177 = .pointer (some ⟨wS.heap.size, 1, none⟩) := hx 38 (by decide)
      have e178 : xq 178 = .int .i64 sh := hx 39 (by decide)
      have e179 : xq 179 = .bool false := hx 40 (by decide)
      have e180 : xq 180 = .bool false := hx 41 (by decide)
      have e181 : xq 181 = .bool false := hx 42 (by decide)
      have e182 : xq 182 = .pointer (some ⟨wT.heap.size, 0, none⟩) := hx 43 (by decide)
      have e183 : xq 183 = .int .i64 tl := hx 44 (by decide)
      have e184 : xq 184 = .pointer (some ⟨wT.heap.size, 1, none⟩) := hx 45 (by decide)
      have e185 : xq 185 = .int .i64 th := hx 46 (by decide)
      have e186 : xq 186 = .bool false := hx 47 (by decide)
      have e187 : xq 187 = .bool false := hx 48 (by decide)
      have e188 : xq 188 = .bool false := hx 49 (by decide)
      have e189 : xq 189 = .int .i64 (k : Int) := hx 50 (by decide)
      have e190 : xq 190 = .pointer (some ⟨w2.heap.size + 1 + 1, k, none⟩) := hx 51 (by decide)
      have e191 : xq 191 = .int .i64 rk := hx 52 (by decide)
      have e192 : xq 192 = .int .i64 (k : Int) := hx 53 (by decide)
      have e193 : xq 193 = .pointer (some ⟨w7.heap.size, k * 2, none⟩) := hx 54 (by decide)
      have e194 : xq 194 = .pointer (some ⟨w7.heap.size, k * 2, none⟩) := hx 55 (by decide)
      have e195 : xq 195 = .int .i64 bl := hx 56 (by decide)
      have e196 : xq 196 = .bool false := hx 57 (by decide)
      have e197 : xq 197 = .bool false := hx 58 (by decide)
      have e198 : xq 198 = .bool false := hx 59 (by decide)
      have e199 : xq 199 = .int .i64 (k : Int) := hx 60 (by decide)
      have e200 : xq 200 = .pointer (some ⟨w2.heap.size + 1 + 1, k, none⟩) := hx 61 (by decide)
      have e201 : xq 201 = .int .i64 rk := hx 62 (by decide)
      have e202 : xq 202 = .int .i64 (k : Int) := hx 63 (by decide)
      have e203 : xq 203 = .pointer (some ⟨w7.heap.size, k * 2, none⟩) := hx 64 (by decide)
      have e204 : xq 204 = .pointer (some ⟨w7.heap.size, k * 2 + 1, none⟩) := hx 65 (by decide)
      have e205 : xq 205 = .int .i64 bh := hx 66 (by decide)
      have e206 : xq 206 = .bool false := hx 67 (by decide)
      have e207 : xq 207 = .bool false := hx 68 (by decide)
      clear hx
      simp only [runOf, setSlot, HRL.out, sr, Nat.reduceAdd, Nat.reduceEqDiff, if_true, if_false]
      simp only [e139, e140, e141, e142, e143, e144, e145, e146, e147, e148, e149, e150, e151, e152, e153, e154, e155, e156, e157, e158, e159, e160, e161, e162, e163, e164, e165, e166, e167, e168, e169, e170, e171, e172, e173, e174, e175, e176, e177, e178, e179, e180, e181, e182, e183, e184, e185, e186, e187, e188, e189, e190, e191, e192, e193, e194, e195, e196, e197, e198, e199, e200, e201, e202, e203, e204, e205, e206, e207]
      clear e139 e140 e141 e142 e143 e144 e145 e146 e147 e148 e149 e150 e151 e152 e153 e154 e155 e156 e157 e158 e159 e160 e161 e162 e163 e164 e165 e166 e167 e168 e169 e170 e171 e172 e173 e174 e175 e176 e177 e178 e179 e180 e181 e182 e183 e184 e185 e186 e187 e188 e189 e190 e191 e192 e193 e194 e195 e196 e197 e198 e199 e200 e201 e202 e203 e204 e205 e206 e207
      refine hKc _ _ ?_
      have HU := Lib.hid hb11.1
      clear hb11
      go_wp2_with fail
      go_roundw
      case rel => exact ⟨k + 1, by go_num, by omega, HSr.out.trans ((HSS.out.mono hszl).trans ((HST.out.mono (Nat.le_trans hszl hstS)).trans (HU.out.mono (Nat.le_trans hszl (Nat.le_trans hstS hstT)))))⟩
      case measure => first | (simp [intOf]; done) | (simp [intOf]; omega)
    ·have hk : k = 4 := by omega
     clear hlt
     obtain ⟨_, _, _, _, _, hgr, _⟩ := gateErr_zero (HOK.out.gate hgl4)
     have hc1 := lo_bd hgr can
     have hc2 := hi_bd hgr can
     have hc3 := lo_bd hgr can'
     have hc4 := hi_bd hgr can'
     have hp1 : loPrice gs can ≤ loPrice gs can' := lo_sub hc1.2 can' HCS.out
     have hp2 : hiPrice gs can' ≤ hiPrice gs can := hi_sub hc2.1 can' HCS.out
     obtain ⟨pl, hpl⟩ : ∃ z, z = lo * loPrice gs can := ⟨_, rfl⟩
     obtain ⟨ph, hph⟩ : ∃ z, z = hi * hiPrice gs can := ⟨_, rfl⟩
     obtain ⟨ql, hql⟩ : ∃ z, z = lo * loPrice gs can' := ⟨_, rfl⟩
     obtain ⟨qh, hqh⟩ : ∃ z, z = hi * hiPrice gs can' := ⟨_, rfl⟩
     have q1 : pl ≤ ql := by rw [hpl, hql]; exact Int.mul_le_mul_of_nonneg_left hp1 hlo0
     have q2 : qh ≤ ph := by rw [hqh, hph]; exact Int.mul_le_mul_of_nonneg_left hp2 hhi0
     have HP := Lib.hid (And.intro hpl hph)
     have HQ := Lib.hid (And.intro hql hqh)
     clear hpl hph hql hqh hp1 hp2 hc1 hc2 hc3 hc4 hgr
     go_wp2_with fail
     refine (Pay_ok err miss full emp G H d q gs hs _ (HGr.out.up zg) hgl' hgd (HHr.out.up zg) hhl' HE.out HX.out).mono ?_
     rw [HBX.out, HCAN.out, ← HLO.out, ← HHI.out, ← HP.out.1, ← HP.out.2]
     rintro e wP ⟨rfl, hbP⟩
     have HgP := Lib.hid (Holds.up (by have h := Hgr.out; exact zp4 : Holds _ (w2.heap.size) 24 #[.int .i64 err, .int .i64 miss, .slice G gs.length d]) hbP)
     have HcP := Lib.hid (Holds.up (by have h := Hcr.out; exact zp4 : Holds _ (w2.heap.size + 1) 27 #[.int .i64 full, .int .i64 emp, .slice H hs.length q]) hbP)
     have HmP := Lib.hid (Holds.up (by have h := Hmr.out; exact zp4 : Holds _ (w2.heap.size + 1 + 1) 28 #[.int .i64 m0, .int .i64 m1, .int .i64 m2, .int .i64 m3]) hbP)
     have HdP := Lib.hid (Holds.up (by have h := Hdr.out; exact zp4 : Holds _ (bn11) 27 #[.int .i64 full, .int .i64 emp, .slice (some ⟨Bn11, 0, none⟩) hs'.length (hs.length + 1)]) hbP)
     have HaP := Lib.hid (Holds.up (by have h := Har.out; exact zp4 : Holds _ (w6.heap.size) 76 #[.int .i64 B.l0, .int .i64 B.h0, .int .i64 B.l1, .int .i64 B.h1, .int .i64 B.l2, .int .i64 B.h2, .int .i64 B.l3, .int .i64 B.h3]) hbP)
     have HbP := Lib.hid (Holds.up (by have h := Hbr.out; exact zp4 : Holds _ (w7.heap.size) 76 #[.int .i64 B'.l0, .int .i64 B'.h0, .int .i64 B'.l1, .int .i64 B'.h1, .int .i64 B'.l2, .int .i64 B'.h2, .int .i64 B'.l3, .int .i64 B'.h3]) hbP)
     have HxP := Lib.hid (Holds.up (by have h := Hxr.out; exact zp4 : Holds _ (w8.heap.size) 87 #[.slice L can.length lc]) hbP)
     have HSP : Hid (Below wr.heap.size wr wP) := Lib.hid (Below.trans zg (hbP.mono (by first | exact Nat.le_refl _ | omega | (simp; done) | (simp; omega))))
     have HBP : Hid (Below w2.heap.size w2 wP) := Lib.hid (HBr.out.trans (HSP.out.mono hsr))
     have hsP := HBP.out.size
     have hstP := HSP.out.size
     have HGP := Lib.hid (HGr.out.up HSP.out)
     have HHP := Lib.hid (HHr.out.up HSP.out)
     have HH'P := Lib.hid (HH'r.out.up HSP.out)
     clear hbP
     clear kg0 kg1 kg2 lt_g kc0 kc1 kc2 lt_c
     obtain ⟨kg0, kg1, kg2⟩ := HgP.out.c3
     have lt_g : w2.heap.size < wP.heap.size := HgP.out.lt
     obtain ⟨kd0, kd1, kd2⟩ := HdP.out.c3
     have lt_d : bn11 < wP.heap.size := HdP.out.lt
     go_wp2_with fail
     refine (Pay_ok err miss full emp G (some ⟨Bn11, 0, none⟩) d (hs.length + 1) gs hs' _ (HGP.out.up zg) hgl' hgd (HH'P.out.up zg) hhl2 HE'.out HX'.out).mono ?_
     rw [HBX'.out, HCAN'.out, ← HLO.out, ← HHI.out, ← HQ.out.1, ← HQ.out.2]
     rintro e wQ ⟨rfl, hbQ⟩
     have HgQ := Lib.hid (Holds.up (by have h := HgP.out; exact zp4 : Holds _ (w2.heap.size) 24 #[.int .i64 err, .int .i64 miss, .slice G gs.length d]) hbQ)
     have HcQ := Lib.hid (Holds.up (by have h := HcP.out; exact zp4 : Holds _ (w2.heap.size + 1) 27 #[.int .i64 full, .int .i64 emp, .slice H hs.length q]) hbQ)
     have HmQ := Lib.hid (Holds.up (by have h := HmP.out; exact zp4 : Holds _ (w2.heap.size + 1 + 1) 28 #[.int .i64 m0, .int .i64 m1, .int .i64 m2, .int .i64 m3]) hbQ)
     have HdQ := Lib.hid (Holds.up (by have h := HdP.out; exact zp4 : Holds _ (bn11) 27 #[.int .i64 full, .int .i64 emp, .slice (some ⟨Bn11, 0, none⟩) hs'.length (hs.length + 1)]) hbQ)
     have HaQ := Lib.hid (Holds.up (by have h := HaP.out; exact zp4 : Holds _ (w6.heap.size) 76 #[.int .i64 B.l0, .int .i64 B.h0, .int .i64 B.l1, .int .i64 B.h1, .int .i64 B.l2, .int .i64 B.h2, .int .i64 B.l3, .int .i64 B.h3]) hbQ)
     have HbQ := Lib.hid (Holds.up (by have h := HbP.out; exact zp4 : Holds _ (w7.heap.size) 76 #[.int .i64 B'.l0, .int .i64 B'.h0, .int .i64 B'.l1, .int .i64 B'.h1, .int .i64 B'.l2, .int .i64 B'.h2, .int .i64 B'.l3, .int .i64 B'.h3]) hbQ)
     have HxQ := Lib.hid (Holds.up (by have h := HxP.out; exact zp4 : Holds _ (w8.heap.size) 87 #[.slice L can.length lc]) hbQ)
     have HpQ := Lib.hid (Holds.up (zp4 : Holds _ (wP.heap.size) 60 #[.int .i64 pl, .int .i64 ph]) hbQ)
     have HSQ : Hid (Below wP.heap.size wP wQ) := Lib.hid (Below.trans zg (hbQ.mono (by first | exact Nat.le_refl _ | omega | (simp; done) | (simp; omega))))
     have HBQ : Hid (Below w2.heap.size w2 wQ) := Lib.hid (HBP.out.trans (HSQ.out.mono hsP))
     have hsQ := HBQ.out.size
     have hstQ := HSQ.out.size
     have HGQ := Lib.hid (HGP.out.up HSQ.out)
     have HHQ := Lib.hid (HHP.out.up HSQ.out)
     have HH'Q := Lib.hid (HH'P.out.up HSQ.out)
     clear hbQ
     clear kg0 kg1 kg2 lt_g kd0 kd1 kd2 lt_d
     obtain ⟨kp0, kp1⟩ := HpQ.out.c2
     have lt_p : wP.heap.size < wQ.heap.size := HpQ.out.lt
     go_wp2_with fail
     refine (awake_any _).mono ?_
     rintro e w12 ⟨rfl, hb12⟩
     go_wp2_with fail
     go_ret
     exact ⟨rfl, HB2.out.trans ((HBQ.out.trans (Below.trans zg (hb12.mono (by first | exact Nat.le_refl _ | omega | (simp; done) | (simp; omega))))).mono hz2)⟩
end Go.Proofs.Ytigkcillgniolaa
