
import Derived.Test.YtifffonoipapgaaVAA
import Derived.Test.YtifffonoipapgaaVAC
import Derived.Test.YtifffonoipapgaaVBF
import Derived.Test.YtifffonoipapgaaVBI
import Derived.Test.YtifffonoipapgaaVBK
import Derived.Test.YtifffonoipapgaaVBS
set_option linter.unusedSimpArgs false
set_option linter.unusedVariables false
namespace Go.Proofs.Ytifffonoipapgaa
open Go.RowKit
set_option maxRecDepth 100000 in
set_option maxHeartbeats 8000000 in
theorem refBoth_any (err miss : Int) (G : Option Addr) (d : Nat) (gs : List Gr) (full emp : Int) (A : Option Addr) (c : Nat) (hs : List Hf) (w : World) (hG : GradesAt w G gs) (hgl : gs.length ≤ 1000) (hA : HandsAt w A hs) (hl : hs.length ≤ 1000) :
  Calls Try.prog 30 #[.agg #[.int .i64 err, .int .i64 miss, .slice G gs.length d], .agg #[.int .i64 full, .int .i64 emp, .slice A hs.length c]] w fun e w' => e = .returned (.int .i64 (bothErr err miss gs full emp hs)) ∧ Below w.heap.size w w' := by
 have HG := Lib.hid hG
 have HA := Lib.hid hA
 clear hG hA
 obtain ⟨eg, heg⟩ : ∃ z, z = gateErr err miss gs := ⟨_, rfl⟩
 obtain ⟨ec, hec⟩ : ∃ z, z = cartErr full emp hs := ⟨_, rfl⟩
 have hB : bothErr err miss gs full emp hs = if eg ≠ 0 then eg else ec := by rw [heg, hec]; rfl
 rw [hB]
 have HEG := Lib.hid heg
 have HEC := Lib.hid hec
 clear heg hec hB
 by_cases he : eg = 0
 ·rw [if_neg (by omega)]
  go_enter Try.func30, Try.ntmps30
  go_wp2_with fail
  refine (refCheck_any err miss G d gs _ (HG.out.up zg) hgl).mono ?_
  rw [← HEG.out]
  rintro e wa ⟨rfl, hba⟩
  have Hga := Lib.hid (Holds.up (zp4 : Holds _ (w.heap.size) 49 #[.int .i64 err, .int .i64 miss, .slice G gs.length d]) hba)
  have Hca := Lib.hid (Holds.up (zp4 : Holds _ (w.heap.size + 1) 37 #[.int .i64 full, .int .i64 emp, .slice A hs.length c]) hba)
  have HSa : Hid (Below w.heap.size w wa) := Lib.hid (Below.trans zg (hba.mono (by first | exact Nat.le_refl _ | omega | (simp; done) | (simp; omega))))
  have HBa := HSa
  have hsa := HBa.out.size
  have hsta := HSa.out.size
  have HAa := Lib.hid (HA.out.up HSa.out)
  clear hba
  obtain ⟨kc0, kc1, kc2⟩ := Hca.out.c3
  have lt_c : w.heap.size + 1 < wa.heap.size := Hca.out.lt
  have hq : (eg != 0) = false := by simp [he]
  go_wp2_with fail
  refine (refCheckCart_any full emp A c hs _ (HAa.out.up zg) hl).mono ?_
  rw [← HEC.out]
  rintro e wb ⟨rfl, hbb⟩
  have Hgb := Lib.hid (Holds.up (by have h := Hga.out; exact zp4 : Holds _ (w.heap.size) 49 #[.int .i64 err, .int .i64 miss, .slice G gs.length d]) hbb)
  have Hcb := Lib.hid (Holds.up (by have h := Hca.out; exact zp4 : Holds _ (w.heap.size + 1) 37 #[.int .i64 full, .int .i64 emp, .slice A hs.length c]) hbb)
  have HSb : Hid (Below wa.heap.size wa wb) := Lib.hid (Below.trans zg (hbb.mono (by first | exact Nat.le_refl _ | omega | (simp; done) | (simp; omega))))
  have HBb : Hid (Below w.heap.size w wb) := Lib.hid (HBa.out.trans (HSb.out.mono hsa))
  have hsb := HBb.out.size
  have hstb := HSb.out.size
  have HAb := Lib.hid (HAa.out.up HSb.out)
  clear hbb
  clear kc0 kc1 kc2 lt_c
  go_wp2_with fail
  go_ret
  exact ⟨rfl, HBb.out⟩
 ·rw [if_pos he]
  go_enter Try.func30, Try.ntmps30
  go_wp2_with fail
  refine (refCheck_any err miss G d gs _ (HG.out.up zg) hgl).mono ?_
  rw [← HEG.out]
  rintro e wa ⟨rfl, hba⟩
  have Hga := Lib.hid (Holds.up (zp4 : Holds _ (w.heap.size) 49 #[.int .i64 err, .int .i64 miss, .slice G gs.length d]) hba)
  have Hca := Lib.hid (Holds.up (zp4 : Holds _ (w.heap.size + 1) 37 #[.int .i64 full, .int .i64 emp, .slice A hs.length c]) hba)
  have HSa : Hid (Below w.heap.size w wa) := Lib.hid (Below.trans zg (hba.mono (by first | exact Nat.le_refl _ | omega | (simp; done) | (simp; omega))))
  have HBa := HSa
  have hsa := HBa.out.size
  have hsta := HSa.out.size
  have HAa := Lib.hid (HA.out.up HSa.out)
  clear hba
  have hq : (eg != 0) = true := by simp [he]
  go_wp2_with fail
  go_ret
  exact ⟨rfl, HBa.out⟩
theorem hand_gat {w : World} {B : Nat} {T : TypeId} {s g0 g1 g2 g3 : Int} (h : Holds w B T #[.int .i64 s, .int .i64 g0, .int .i64 g1, .int .i64 g2, .int .i64 g3]) {k : Nat} (hk : k < 4) : w.cell? ⟨B, 1 + k, none⟩ = some (.int .i64 (gat g0 g1 g2 g3 k)) := by
 match k, hk with
 | 0, _ => exact h.cell 1
 | 1, _ => exact h.cell 2
 | 2, _ => exact h.cell 3
 | 3, _ => exact h.cell 4
set_option maxRecDepth 100000 in
set_option maxHeartbeats 8000000 in
theorem refLet_any (err miss : Int) (G : Option Addr) (gl d : Nat) (y : Hf) (k : Nat) (hk : k < 4) (p : Int) (p0 : 0 ≤ p) (p1 : p ≤ 40) (i0 : 0 ≤ miss) (i1 : miss ≤ 20) (ht : y.taken = true) (w : World) :
  Calls Try.prog 95 #[.agg #[.int .i64 err, .int .i64 miss, .slice G gl d], .agg #[.int .i64 y.spot, .int .i64 y.g0, .int .i64 y.g1, .int .i64 y.g2, .int .i64 y.g3], .int .i64 (k : Int), .int .i64 p] w fun e w' => e = .returned (.bool (fitK miss y.sum (gat y.g0 y.g1 y.g2 y.g3 k) p)) ∧ Below w.heap.size w w' := by
 obtain ⟨⟨s0, s1⟩, ⟨a0, b0⟩, ⟨a1, b1⟩, ⟨a2, b2⟩, a3, b3⟩ := taken_parts ht
 obtain ⟨n, hn⟩ : ∃ z, z = y.sum := ⟨_, rfl⟩
 have n0 : 0 ≤ n := by rw [hn]; unfold Hf.sum; omega
 have n1 : n ≤ 800 := by rw [hn]; unfold Hf.sum; omega
 obtain ⟨x, hx⟩ : ∃ z, z = gat y.g0 y.g1 y.g2 y.g3 k := ⟨_, rfl⟩
 have xb : 0 ≤ x ∧ x ≤ 200 := by rw [hx]; exact gat_of a0 a1 a2 a3 b0 b1 b2 b3 k
 have q0 : 0 ≤ p * n := Int.mul_nonneg p0 n0
 have q1 : p * n ≤ 40 * 800 := Int.mul_le_mul p1 n1 n0 (by decide)
 rw [← hn, ← hx]
 have HN := Lib.hid hn
 have HX := Lib.hid hx
 have HT := Lib.hid ht
 obtain ⟨b, hb⟩ : ∃ z, z = fitK miss n x p := ⟨_, rfl⟩
 rw [← hb]
 have HF := Lib.hid hb
 have hki : (k : Int) < 4 := by omega
 clear hn hx ht hb
 go_enter Try.func95, Try.ntmps95
 go_wp2_with fail
 rename_i Kc hKc
 have HSL := Lib.hid (show slotsOf [some 10, some 11, some 12, some 13, some 14, some 15, some 16, some 17, some 18, some 19, some 9] = [10, 11, 12, 13, 14, 15, 16, 17, 18, 19, 9] from rfl)
 refine wp_region_partsG (by kernel_rfl) [some 10, some 11, some 12, some 13, some 14, some 15, some 16, some 17, some 18, some 19, some 9] (fun jq xq w' => match jq with
  | 0 => xq 10 = .int .i64 p
  | 1 => xq 11 = .agg #[.int .i64 y.spot, .int .i64 y.g0, .int .i64 y.g1, .int .i64 y.g2, .int .i64 y.g3]
  | 2 => xq 12 = .int .i64 n
  | 3 => xq 13 = .int .i64 (p * n)
  | 4 => xq 14 = .int .i64 (k : Int)
  | 5 => xq 15 = .pointer (some ⟨w.heap.size + 1, 1, none⟩)
  | 6 => xq 16 = .pointer (some ⟨w.heap.size + 1, 1 + k, none⟩)
  | 7 => xq 17 = .int .i64 x
  | 8 => xq 18 = .int .i64 (40 * x)
  | 9 => xq 19 = .int .i64 (p * n - 40 * x)
  | 10 => xq 9 = .int .i64 (p * n - 40 * x)
  | 11 => Holds w' (w.heap.size) 49 #[.int .i64 err, .int .i64 miss, .slice G gl d]
  | 12 => Holds w' (w.heap.size + 1) 42 #[.int .i64 y.spot, .int .i64 y.g0, .int .i64 y.g1, .int .i64 y.g2, .int .i64 y.g3]
  | _ => True) [[10], [11], [12], [13], [14], [15], [16], [17], [18], [19], [9], [], []] [] (fun w' => Below w.heap.size w w') (by kernel_rfl)  ?_ ?_ (fun w' w'' hb h => h.trans (hb.mono h.size)) zg ?_ ?_ ?_
 ·intro jq xq xq' wqq h hv
  match jq, h, hv with
  | 0, h, hv => show xq' 10 = .int .i64 p; rw [← h 10 (by decide)]; exact hv
  | 1, h, hv => show xq' 11 = .agg #[.int .i64 y.spot, .int .i64 y.g0, .int .i64 y.g1, .int .i64 y.g2, .int .i64 y.g3]; rw [← h 11 (by decide)]; exact hv
  | 2, h, hv => show xq' 12 = .int .i64 n; rw [← h 12 (by decide)]; exact hv
  | 3, h, hv => show xq' 13 = .int .i64 (p * n); rw [← h 13 (by decide)]; exact hv
  | 4, h, hv => show xq' 14 = .int .i64 (k : Int); rw [← h 14 (by decide)]; exact hv
  | 5, h, hv => show xq' 15 = .pointer (some ⟨w.heap.size + 1, 1, none⟩); rw [← h 15 (by decide)]; exact hv
  | 6, h, hv => show xq' 16 = .pointer (some ⟨w.heap.size + 1, 1 + k, none⟩); rw [← h 16 (by decide)]; exact hv
  | 7, h, hv => show xq' 17 = .int .i64 x; rw [← h 17 (by decide)]; exact hv
  | 8, h, hv => show xq' 18 = .int .i64 (40 * x); rw [← h 18 (by decide)]; exact hv
  | 9, h, hv => show xq' 19 = .int .i64 (p * n - 40 * x); rw [← h 19 (by decide)]; exact hv
  | 10, h, hv => show xq' 9 = .int .i64 (p * n - 40 * x); rw [← h 9 (by decide)]; exact hv
  | 11, h, hv => exact hv
  | 12, h, hv => exact hv
  | _ + 13, _, _ => trivial
 ·intro jq xq wqq w' hb' hv
  match jq, hv with
  | 0, hv => exact hv
  | 1, hv => exact hv
  | 2, hv => exact hv
  | 3, hv => exact hv
  | 4, hv => exact hv
  | 5, hv => exact hv
  | 6, hv => exact hv
  | 7, hv => exact hv
  | 8, hv => exact hv
  | 9, hv => exact hv
  | 10, hv => exact hv
  | 11, h0 => exact h0.up hb'
  | 12, h0 => exact h0.up hb'
  | _ + 13, _ => trivial
 ·intro jq hj
  match jq, hj with
  | 0, hj => exact absurd hj (by decide)
  | 1, hj => exact absurd hj (by decide)
  | 2, hj => exact absurd hj (by decide)
  | 3, hj => exact absurd hj (by decide)
  | 4, hj => exact absurd hj (by decide)
  | 5, hj => exact absurd hj (by decide)
  | 6, hj => exact absurd hj (by decide)
  | 7, hj => exact absurd hj (by decide)
  | 8, hj => exact absurd hj (by decide)
  | 9, hj => exact absurd hj (by decide)
  | 10, hj => exact absurd hj (by decide)
  | 11, _ => exact Holds.alloc (Holds.new _ _ _) _
  | 12, _ => exact Holds.new' _ _ (by simp)
  | _ + 13, _ => trivial
 ·refine ⟨?_, ?_, ?_, ?_, ?_, ?_, ?_, ?_, ?_, ?_, ?_, trivial⟩
  ·intro xq w1 hb1 hx K hK0
   have hK := fun v w' hb => hK0 v w' (.inl hb)
   clear hx hKc hK0
   simp only [frameOf, fill, setSlot, sg, Nat.reduceBEq, if_true, if_false, Nat.reduceAdd, Nat.reduceEqDiff, HSL.out] at hK ⊢
   go_wp2_with (fail)
   exact hK _ _ (Below.refl _ _) rfl
  ·intro xq w1 hb1 hx K hK0
   have hK := fun v w' hb => hK0 v w' (.inl hb)
   have fiy_0 : Holds w1 (w.heap.size + 1) 42 #[.int .i64 y.spot, .int .i64 y.g0, .int .i64 y.g1, .int .i64 y.g2, .int .i64 y.g3] := hx 12 (by rfl) (by rfl)
   clear hx hKc hK0
   obtain ⟨ky0, ky1, ky2, ky3, ky4⟩ := fiy_0.c5
   simp only [frameOf, fill, setSlot, sg, Nat.reduceBEq, if_true, if_false, Nat.reduceAdd, Nat.reduceEqDiff, HSL.out] at hK ⊢
   go_wp2_with (fail)
   exact hK _ _ (Below.refl _ _) rfl
  ·intro xq w1 hb1 hx K hK0
   have hK := fun v w' hb => hK0 v w' (.inl hb)
   have e11 : xq 11 = .agg #[.int .i64 y.spot, .int .i64 y.g0, .int .i64 y.g1, .int .i64 y.g2, .int .i64 y.g3] := hx 1 (by rfl) (by rfl)
   clear hx hKc hK0
   simp only [frameOf, fill, setSlot, sg, Nat.reduceBEq, if_true, if_false, Nat.reduceAdd, Nat.reduceEqDiff, HSL.out] at hK ⊢
   simp only [e11] at hK ⊢
   clear e11
   go_wp2_with (go_at_call 91; refine (refTotal_any y HT.out _).mono ?_; rw [← HN.out]; rintro e w2_ ⟨rfl, hb_⟩)
   exact hK _ _ hb_ rfl
  ·intro xq w1 hb1 hx K hK0
   have hK := fun v w' hb => hK0 v w' (.inl hb)
   have e10 : xq 10 = .int .i64 p := hx 0 (by rfl) (by rfl)
   have e12 : xq 12 = .int .i64 n := hx 2 (by rfl) (by rfl)
   clear hx hKc hK0
   simp only [frameOf, fill, setSlot, sg, Nat.reduceBEq, if_true, if_false, Nat.reduceAdd, Nat.reduceEqDiff, HSL.out] at hK ⊢
   simp only [e10, e12] at hK ⊢
   clear e10 e12
   go_wp2_with (fail)
   exact hK _ _ (Below.refl _ _) rfl
  ·intro xq w1 hb1 hx K hK0
   have hK := fun v w' hb => hK0 v w' (.inl hb)
   clear hx hKc hK0
   simp only [frameOf, fill, setSlot, sg, Nat.reduceBEq, if_true, if_false, Nat.reduceAdd, Nat.reduceEqDiff, HSL.out] at hK ⊢
   go_wp2_with (fail)
   exact hK _ _ (Below.refl _ _) rfl
  ·intro xq w1 hb1 hx K hK0
   have hK := fun v w' hb => hK0 v w' (.inl hb)
   clear hx hKc hK0
   simp only [frameOf, fill, setSlot, sg, Nat.reduceBEq, if_true, if_false, Nat.reduceAdd, Nat.reduceEqDiff, HSL.out] at hK ⊢
   go_wp2_with (fail)
   exact hK _ _ (Below.refl _ _) rfl
  ·intro xq w1 hb1 hx K hK0
   have hK := fun v w' hb => hK0 v w' (.inl hb)
   have e14 : xq 14 = .int .i64 (k : Int) := hx 4 (by rfl) (by rfl)
   have e15 : xq 15 = .pointer (some ⟨w.heap.size + 1, 1, none⟩) := hx 5 (by rfl) (by rfl)
   clear hx hKc hK0
   simp only [frameOf, fill, setSlot, sg, Nat.reduceBEq, if_true, if_false, Nat.reduceAdd, Nat.reduceEqDiff, HSL.out] at hK ⊢
   simp only [e14, e15] at hK ⊢
   clear e14 e15
   go_wp2_with (fail)
   exact hK _ _ (Below.refl _ _) rfl
  ·intro xq w1 hb1 hx K hK0
   have hK := fun v w' hb => hK0 v w' (.inl hb)
   have e16 : xq 16 = .pointer (some ⟨w.heap.size + 1, 1 + k, none⟩) := hx 6 (by rfl) (by rfl)
   have fiy_0 : Holds w1 (w.heap.size + 1) 42 #[.int .i64 y.spot, .int .i64 y.g0, .int .i64 y.g1, .int .i64 y.g2, .int .i64 y.g3] := hx 12 (by rfl) (by rfl)
   clear hx hKc hK0
   have kx : w1.cell? ⟨w.heap.size + 1, 1 + k, none⟩ = some (.int .i64 x) := by rw [HX.out]; exact hand_gat fiy_0 hk
   simp only [frameOf, fill, setSlot, sg, Nat.reduceBEq, if_true, if_false, Nat.reduceAdd, Nat.reduceEqDiff, HSL.out] at hK ⊢
   simp only [e16] at hK ⊢
   clear e16
   go_wp2_with (fail)
   exact hK _ _ (Below.refl _ _) rfl
  ·intro xq w1 hb1 hx K hK0
   have hK := fun v w' hb => hK0 v w' (.inl hb)
   have e17 : xq 17 = .int .i64 x := hx 7 (by rfl) (by rfl)
   clear hx hKc hK0
   simp only [frameOf, fill, setSlot, sg, Nat.reduceBEq, if_true, if_false, Nat.reduceAdd, Nat.reduceEqDiff, HSL.out] at hK ⊢
   simp only [e17] at hK ⊢
   clear e17
   go_wp2_with (fail)
   exact hK _ _ (Below.refl _ _) rfl
  ·intro xq w1 hb1 hx K hK0
   have hK := fun v w' hb => hK0 v w' (.inl hb)
   have e13 : xq 13 = .int .i64 (p * n) := hx 3 (by rfl) (by rfl)
   have e18 : xq 18 = .int .i64 (40 * x) := hx 8 (by rfl) (by rfl)
   clear hx hKc hK0
   simp only [frameOf, fill, setSlot, sg, Nat.reduceBEq, if_true, if_false, Nat.reduceAdd, Nat.reduceEqDiff, HSL.out] at hK ⊢
   simp only [e13, e18] at hK ⊢
   clear e13 e18
   go_wp2_with (fail)
   exact hK _ _ (Below.refl _ _) rfl
  ·intro xq w1 hb1 hx K hK0
   have hK := fun v w' hb => hK0 v w' (.inl hb)
   have e19 : xq 19 = .int .i64 (p * n - 40 * x) := hx 9 (by rfl) (by rfl)
   clear hx hKc hK0
   simp only [frameOf, fill, setSlot, sg, Nat.reduceBEq, if_true, if_false, Nat.reduceAdd, Nat.reduceEqDiff, HSL.out] at hK ⊢
   simp only [e19] at hK ⊢
   clear e19
   go_wp2_with (fail)
   exact hK _ _ (Below.refl _ _) rfl
 ·intro xq w1 hb1 hx
  have e10 : xq 10 = .int .i64 p := hx 0 (by decide)
  have e11 : xq 11 = .agg #[.int .i64 y.spot, .int .i64 y.g0, .int .i64 y.g1, .int .i64 y.g2, .int .i64 y.g3] := hx 1 (by decide)
  have e12 : xq 12 = .int .i64 n := hx 2 (by decide)
  have e13 : xq 13 = .int .i64 (p * n) := hx 3 (by decide)
  have e14 : xq 14 = .int .i64 (k : Int) := hx 4 (by decide)
  have e15 : xq 15 = .pointer (some ⟨w.heap.size + 1, 1, none⟩) := hx 5 (by decide)
  have e16 : xq 16 = .pointer (some ⟨w.heap.size + 1, 1 + k, none⟩) := hx 6 (by decide)
  have e17 : xq 17 = .int .i64 x := hx 7 (by decide)
  have e18 : xq 18 = .int .i64 (40 * x) := hx 8 (by decide)
  have e19 : xq 19 = .int .i64 (p * n - 40 * x) := hx 9 (by decide)
  have e9 : xq 9 = .int .i64 (p * n - 40 * x) := hx 10 (by decide)
  have fig_0 : Holds w1 (w.heap.size) 49 #[.int .i64 err, .int .i64 miss, .slice G gl d] := hx 11 (by decide)
  clear hx
  simp only [frameOf, fill, setSlot, sg, Nat.reduceBEq, if_true, if_false, Nat.reduceAdd, Nat.reduceEqDiff, HSL.out]
  simp only [e10, e11, e12, e13, e14, e15, e16, e17, e18, e19, e9]
  clear e10 e11 e12 e13 e14 e15 e16 e17 e18 e19 e9
  refine hKc _ _ ?_
  have HB := Lib.hid hb1
  have kg1 : w1.cell? ⟨w.heap.size, 1, none⟩ = some (.int .i64 miss) := fig_0.cell 1
  have lg := fig_0.lt
  clear hb1 fig_0
  by_cases h2 : p * n - 40 * x ≤ 40 * miss
  ·by_cases h3 : 40 * x - p * n ≤ 40 * miss
   ·have HV : Hid (b = true) := Lib.hid (by rw [HF.out, fitK, decide_eq_true h2, decide_eq_true h3]; rfl)
    have h3' : -(p * n - 40 * x) ≤ 40 * miss := by omega
    go_wp2_with fail
    go_ret
    exact ⟨by rw [HV.out]; first | rfl | (congr 2; simp; omega), HB.out.trans zg⟩
   ·have HV : Hid (b = false) := Lib.hid (by rw [HF.out, fitK, decide_eq_true h2, decide_eq_false h3]; rfl)
    have h3' : ¬ -(p * n - 40 * x) ≤ 40 * miss := by omega
    go_wp2_with fail
    go_ret
    exact ⟨by rw [HV.out]; first | rfl | (congr 2; simp; omega), HB.out.trans zg⟩
  ·have HV : Hid (b = false) := Lib.hid (by rw [HF.out, fitK, decide_eq_false h2]; rfl)
   go_wp2_with fail
   go_ret
   exact ⟨by rw [HV.out]; first | rfl | (congr 2; simp; omega), HB.out.trans zg⟩
def foundErr (b : Bool) : Int := if b then 0 else 6
set_option maxRecDepth 100000 in
set_option maxHeartbeats 8000000 in
theorem refNone_any (b : Bool) (w : World) :
  Calls Try.prog 33 #[.bool b] w fun e w' => e = .returned (.int .i64 (foundErr b)) ∧ Below w.heap.size w w' := by
 cases b with
 | true =>
  go_enter Try.func33, Try.ntmps33
  go_wp2_with fail
  go_ret
  exact ⟨rfl, zg⟩
 | false =>
  go_enter Try.func33, Try.ntmps33
  go_wp2_with fail
  go_ret
  exact ⟨rfl, zg⟩
end Go.Proofs.Ytifffonoipapgaa
