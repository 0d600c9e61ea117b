
import Derived.Test.YtifffonoipapgaaLAA
import Derived.Test.YtifffonoipapgaaBAC
import Derived.Test.YtifffonoipapgaaBAV
import Derived.Test.YtifffonoipapgaaBBB
import Derived.Test.YtifffonoipapgaaBBC
import Derived.Test.YtifffonoipapgaaBBF
import Derived.Test.YtifffonoipapgaaBBG
import Derived.Test.YtifffonoipapgaaBBI
set_option linter.unusedSimpArgs false
set_option linter.unusedVariables false
namespace Go.Proofs.Ytifffonoipapgaa
open Go.RowKit
def limB (m0 m1 m2 m3 : Int) (g : Gr) : Bool := decide (g.corn ≤ m0) && decide (m1 ≤ g.chaff) && decide (m2 ≤ g.stones) && decide (m3 ≤ g.damp)
def idxFrom (p : Gr → Bool) : List Gr → Nat → Int
 | [], _ => -1
 | g :: gs, k => if p g then (k : Int) else idxFrom p gs (k + 1)
def hasN (gs : List Gr) (m0 m1 m2 m3 : Int) : Int := idxFrom (limB m0 m1 m2 m3) gs 0
theorem mix_err {m0 m1 m2 m3 : Int} (h : Mix4 m0 m1 m2 m3) : mixErr m0 m1 m2 m3 = 0 := by
 obtain ⟨p0, p1, p2, p3, hs⟩ := h
 have hw : (within m0 0 40 && within m1 0 40 && within m2 0 40 && within m3 0 40) = true := by
  simp only [within, Bool.and_eq_true, decide_eq_true_eq]
  omega
 unfold mixErr
 rw [hw]
 simp [hs]
set_option maxRecDepth 100000 in
set_option maxHeartbeats 4000000 in
theorem Fits_ok (err miss full empty : Int) (G A : Option Addr) (d c : Nat) (gs : List Gr) (hs : List Hf) (w : World) (hG : GradesAt w G gs) (hgl : gs.length ≤ 1000) (hA : HandsAt w A hs) (hl : hs.length ≤ 1000) (he : bothErr err miss gs full empty hs = 0) (m0 m1 m2 m3 : Int) (hm : Mix4 m0 m1 m2 m3) :
  Calls Try.prog 39 #[.agg #[.int .i64 err, .int .i64 miss, .slice G gs.length d], .agg #[.int .i64 full, .int .i64 empty, .slice A hs.length c], .agg #[.int .i64 m0, .int .i64 m1, .int .i64 m2, .int .i64 m3]] w fun e w' => e = .returned (.tuple #[.bool ((boundsOf miss (fun _ => true) hs).holds m0 m1 m2 m3), .int .i64 0]) ∧ Below w.heap.size w w' := by
 obtain ⟨hg0, hc0⟩ := bothErr_zero he
 obtain ⟨_, _, _, i0, i1, _, _⟩ := gateErr_zero hg0
 obtain ⟨_, _, _, _, _, ht, hn⟩ := cartErr_zero hc0
 have HT := Lib.hid ht
 have HN := Lib.hid hn
 have HA := Lib.hid hA
 have HG := Lib.hid hG
 have HE := Lib.hid he
 have HME := Lib.hid (mix_err hm)
 clear hA hG he hg0 hc0 ht hn hm
 go_enter Try.func39, Try.ntmps39
 go_wp2_with fail
 refine (arrive_at err miss full empty G A d c gs hs _ (HG.out.up zg) hgl (HA.out.up zg) hl HE.out).mono ?_
 rintro e w2 ⟨rfl, hb2⟩
 have Hm2 := Lib.hid (Holds.up (zp4 : Holds _ (w.heap.size + 1 + 1) 28 #[.int .i64 m0, .int .i64 m1, .int .i64 m2, .int .i64 m3]) hb2)
 have HB2 : Hid (Below w.heap.size w w2) := Lib.hid (Below.trans zg (hb2.mono (by first | omega | (simp; done) | (simp; omega))))
 have lm := Hm2.out.lt
 obtain ⟨k0, k1, k2, k3⟩ := Hm2.out.c4
 clear hb2
 go_wp2_with fail
 refine (checkMixture_any m0 m1 m2 m3 _).mono ?_
 rw [HME.out]
 rintro e w3 ⟨rfl, hb3⟩
 have Hm3 := Lib.hid (Holds.up (by have h := Hm2.out; exact zp4 : Holds _ (w.heap.size + 1 + 1) 28 #[.int .i64 m0, .int .i64 m1, .int .i64 m2, .int .i64 m3]) hb3)
 have Ha3 := Lib.hid (Holds.up (zp4 : Holds _ (w2.heap.size) 147 #[.int .i64 full, .int .i64 empty, .slice A hs.length c, .int .i64 err, .int .i64 miss, .slice G gs.length d, .func (.func 99) #[.agg #[.int .i64 full, .int .i64 empty, .slice A hs.length c]] #[]]) hb3)
 have HB3 : Hid (Below w.heap.size w w3) := Lib.hid (HB2.out.trans (Below.trans zg (hb3.mono (by have := HB2.out.size; simp; omega))))
 clear hb3 k0 k1 k2 k3
 go_wp2_with fail
 rename_i Kc hKc
 have HSL := Lib.hid (show slotsOf [some 25, some 26, some 27, some 28, some 6, some 7] = [25, 26, 27, 28, 6, 7] from rfl)
 refine wp_region_partsG (by kernel_rfl) [some 25, some 26, some 27, some 28, some 6, some 7] (fun jq xq w' => match jq with
  | 0 => xq 25 = .agg #[.int .i64 full, .int .i64 empty, .slice A hs.length c, .int .i64 err, .int .i64 miss, .slice G gs.length d, .func (.func 99) #[.agg #[.int .i64 full, .int .i64 empty, .slice A hs.length c]] #[]]
  | 1 => xq 26 = .agg #[.int .i64 (boundsOf miss (fun _ => true) hs).l0, .int .i64 (boundsOf miss (fun _ => true) hs).h0, .int .i64 (boundsOf miss (fun _ => true) hs).l1, .int .i64 (boundsOf miss (fun _ => true) hs).h1, .int .i64 (boundsOf miss (fun _ => true) hs).l2, .int .i64 (boundsOf miss (fun _ => true) hs).h2, .int .i64 (boundsOf miss (fun _ => true) hs).l3, .int .i64 (boundsOf miss (fun _ => true) hs).h3]
  | 2 => xq 27 = .agg #[.int .i64 m0, .int .i64 m1, .int .i64 m2, .int .i64 m3]
  | 3 => xq 28 = .bool ((boundsOf miss (fun _ => true) hs).holds m0 m1 m2 m3)
  | 4 => xq 6 = .bool ((boundsOf miss (fun _ => true) hs).holds m0 m1 m2 m3)
  | 5 => xq 7 = .int .i64 0
  | _ => True) [[25], [26], [27], [28], [6], [7]] [] (Below w3.heap.size w3) (by kernel_rfl) ?_ ?_ (fun w' w'' hb h => h.trans (hb.mono h.size)) (Below.refl _ _) ?_ ?_ ?_
 ·intro jq xq xq' wq h hv
  match jq, h, hv with
  | 0, h, hv => show xq' 25 = .agg #[.int .i64 full, .int .i64 empty, .slice A hs.length c, .int .i64 err, .int .i64 miss, .slice G gs.length d, .func (.func 99) #[.agg #[.int .i64 full, .int .i64 empty, .slice A hs.length c]] #[]]; rw [← h 25 (by decide)]; exact hv
  | 1, h, hv => show xq' 26 = .agg #[.int .i64 (boundsOf miss (fun _ => true) hs).l0, .int .i64 (boundsOf miss (fun _ => true) hs).h0, .int .i64 (boundsOf miss (fun _ => true) hs).l1, .int .i64 (boundsOf miss (fun _ => true) hs).h1, .int .i64 (boundsOf miss (fun _ => true) hs).l2, .int .i64 (boundsOf miss (fun _ => true) hs).h2, .int .i64 (boundsOf miss (fun _ => true) hs).l3, .int .i64 (boundsOf miss (fun _ => true) hs).h3]; rw [← h 26 (by decide)]; exact hv
  | 2, h, hv => show xq' 27 = .agg #[.int .i64 m0, .int .i64 m1, .int .i64 m2, .int .i64 m3]; rw [← h 27 (by decide)]; exact hv
  | 3, h, hv => show xq' 28 = .bool ((boundsOf miss (fun _ => true) hs).holds m0 m1 m2 m3); rw [← h 28 (by decide)]; exact hv
  | 4, h, hv => show xq' 6 = .bool ((boundsOf miss (fun _ => true) hs).holds m0 m1 m2 m3); rw [← h 6 (by decide)]; exact hv
  | 5, h, hv => show xq' 7 = .int .i64 0; rw [← h 7 (by decide)]; exact hv
  | _ + 6, _, _ => trivial
 ·intro jq xq wq w' hb' hv
  match jq, hv with
  | 0, hv => exact hv
  | 1, hv => exact hv
  | 2, hv => exact hv
  | 3, hv => exact hv
  | 4, hv => exact hv
  | 5, hv => exact hv
  | _ + 6, _ => trivial
 ·intro jq hj
  match jq, hj with
  | 0, hj => exact absurd hj (by decide)
  | 1, hj => exact absurd hj (by decide)
  | 2, hj => exact absurd hj (by decide)
  | 3, hj => exact absurd hj (by decide)
  | 4, hj => exact absurd hj (by decide)
  | 5, hj => exact absurd hj (by decide)
  | _ + 6, _ => trivial
 ·refine ⟨?_, ?_, ?_, ?_, ?_, ?_, trivial⟩
  ·intro xq w1 hb1 hx K hK0
   have hK := fun v w' hb => hK0 v w' (.inl hb)
   clear hx hKc hK0
   have h7 := Ha3.out.up hb1
   obtain ⟨a0, a1, a2, a3, a4, a5, a6⟩ := h7.c7
   clear h7
   simp only [frameOf, fill, setSlot, sg, Nat.reduceBEq, if_true, if_false, Nat.reduceAdd, Nat.reduceEqDiff, HSL.out] at hK ⊢
   go_wp2_with (fail)
   exact hK _ _ (Below.refl _ _) rfl
  ·intro xq w1 hb1 hx K hK0
   have hK := fun v w' hb => hK0 v w' (.inl hb)
   have e25 : xq 25 = .agg #[.int .i64 full, .int .i64 empty, .slice A hs.length c, .int .i64 err, .int .i64 miss, .slice G gs.length d, .func (.func 99) #[.agg #[.int .i64 full, .int .i64 empty, .slice A hs.length c]] #[]] := hx 0 (by rfl) (by rfl)
   clear hx hKc hK0
   simp only [frameOf, fill, setSlot, sg, Nat.reduceBEq, if_true, if_false, Nat.reduceAdd, Nat.reduceEqDiff, HSL.out] at hK ⊢
   simp only [e25] at hK ⊢
   clear e25
   go_wp2_with (go_at_call 104; refine (bounds_hand full empty err miss A c hs (.slice G gs.length d) _ (HA.out.up (HB3.out.trans (hb1.mono HB3.out.size))) hl i0 i1 HT.out HN.out).mono ?_; rintro e w5 ⟨rfl, hb5⟩)
   exact hK _ _ hb5 rfl
  ·intro xq w1 hb1 hx K hK0
   have hK := fun v w' hb => hK0 v w' (.inl hb)
   clear hx hKc hK0
   have h4 := Hm3.out.up hb1
   obtain ⟨b0, b1, b2, b3⟩ := h4.c4
   clear h4
   simp only [frameOf, fill, setSlot, sg, Nat.reduceBEq, if_true, if_false, Nat.reduceAdd, Nat.reduceEqDiff, HSL.out] at hK ⊢
   go_wp2_with (fail)
   exact hK _ _ (Below.refl _ _) rfl
  ·intro xq w1 hb1 hx K hK0
   have hK := fun v w' hb => hK0 v w' (.inl hb)
   have e26 : xq 26 = .agg #[.int .i64 (boundsOf miss (fun _ => true) hs).l0, .int .i64 (boundsOf miss (fun _ => true) hs).h0, .int .i64 (boundsOf miss (fun _ => true) hs).l1, .int .i64 (boundsOf miss (fun _ => true) hs).h1, .int .i64 (boundsOf miss (fun _ => true) hs).l2, .int .i64 (boundsOf miss (fun _ => true) hs).h2, .int .i64 (boundsOf miss (fun _ => true) hs).l3, .int .i64 (boundsOf miss (fun _ => true) hs).h3] := hx 1 (by rfl) (by rfl)
   have e27 : xq 27 = .agg #[.int .i64 m0, .int .i64 m1, .int .i64 m2, .int .i64 m3] := hx 2 (by rfl) (by rfl)
   clear hx hKc hK0
   simp only [frameOf, fill, setSlot, sg, Nat.reduceBEq, if_true, if_false, Nat.reduceAdd, Nat.reduceEqDiff, HSL.out] at hK ⊢
   simp only [e26, e27] at hK ⊢
   clear e26 e27
   go_wp2_with (go_at_call 105; refine (holds_any (boundsOf miss (fun _ => true) hs) m0 m1 m2 m3 _).mono ?_; rintro e w5 ⟨rfl, hb5⟩)
   exact hK _ _ hb5 rfl
  ·intro xq w1 hb1 hx K hK0
   have hK := fun v w' hb => hK0 v w' (.inl hb)
   have e28 : xq 28 = .bool ((boundsOf miss (fun _ => true) hs).holds m0 m1 m2 m3) := hx 3 (by rfl) (by rfl)
   clear hx hKc hK0
   simp only [frameOf, fill, setSlot, sg, Nat.reduceBEq, if_true, if_false, Nat.reduceAdd, Nat.reduceEqDiff, HSL.out] at hK ⊢
   simp only [e28] at hK ⊢
   clear e28
   go_wp2_with (fail)
   exact hK _ _ (Below.refl _ _) rfl
  ·intro xq w1 hb1 hx K hK0
   have hK := fun v w' hb => hK0 v w' (.inl hb)
   clear hx hKc hK0
   simp only [frameOf, fill, setSlot, sg, Nat.reduceBEq, if_true, if_false, Nat.reduceAdd, Nat.reduceEqDiff, HSL.out] at hK ⊢
   go_wp2_with (fail)
   exact hK _ _ (Below.refl _ _) rfl
 ·intro xq w1 hb1 hx
  have e25 : xq 25 = .agg #[.int .i64 full, .int .i64 empty, .slice A hs.length c, .int .i64 err, .int .i64 miss, .slice G gs.length d, .func (.func 99) #[.agg #[.int .i64 full, .int .i64 empty, .slice A hs.length c]] #[]] := hx 0 (by decide)
  have e26 : xq 26 = .agg #[.int .i64 (boundsOf miss (fun _ => true) hs).l0, .int .i64 (boundsOf miss (fun _ => true) hs).h0, .int .i64 (boundsOf miss (fun _ => true) hs).l1, .int .i64 (boundsOf miss (fun _ => true) hs).h1, .int .i64 (boundsOf miss (fun _ => true) hs).l2, .int .i64 (boundsOf miss (fun _ => true) hs).h2, .int .i64 (boundsOf miss (fun _ => true) hs).l3, .int .i64 (boundsOf miss (fun _ => true) hs).h3] := hx 1 (by decide)
  have e27 : xq 27 = .agg #[.int .i64 m0, .int .i64 m1, .int .i64 m2, .int .i64 m3] := hx 2 (by decide)
  have e28 : xq 28 = .bool ((boundsOf miss (fun _ => true) hs).holds m0 m1 m2 m3) := hx 3 (by decide)
  have e6 : xq 6 = .bool ((boundsOf miss (fun _ => true) hs).holds m0 m1 m2 m3) := hx 4 (by decide)
  have e7 : xq 7 = .int .i64 0 := hx 5 (by decide)
  clear hx
  simp only [frameOf, fill, setSlot, sg, Nat.reduceBEq, if_true, if_false, Nat.reduceAdd, Nat.reduceEqDiff, HSL.out]
  simp only [e25, e26, e27, e28, e6, e7]
  clear e25 e26 e27 e28 e6 e7
  refine hKc _ _ ?_
  have HX := Lib.hid hb1
  go_wp2_with fail
  go_ret2
  exact ⟨rfl, HB3.out.trans (HX.out.mono HB3.out.size)⟩
theorem limits_holds {m0 m1 m2 m3 : Int} (h : Mix4 m0 m1 m2 m3) (g : Gr) : g.limits.holds m0 m1 m2 m3 = limB m0 m1 m2 m3 g := by
 obtain ⟨p0, p1, p2, p3, hs⟩ := h
 have e : g.limits = ⟨g.corn, 40, 0, g.chaff, 0, g.stones, 0, g.damp⟩ := rfl
 rw [e, Bool.eq_iff_iff]
 simp only [Bx.holds, within, limB, Bool.and_eq_true, decide_eq_true_eq]
 omega
set_option maxRecDepth 100000 in
set_option maxHeartbeats 4000000 in
theorem Has_ok (err miss : Int) (G : Option Addr) (d : Nat) (gs : List Gr) (w : World) (hG : GradesAt w G gs) (hgl : gs.length ≤ 1000) (he : gateErr err miss gs = 0) (m0 m1 m2 m3 : Int) (hm : Mix4 m0 m1 m2 m3) :
  Calls Try.prog 40 #[.agg #[.int .i64 err, .int .i64 miss, .slice G gs.length d], .agg #[.int .i64 m0, .int .i64 m1, .int .i64 m2, .int .i64 m3]] w fun e w' => e = .returned (.tuple #[.int .i64 (hasN gs m0 m1 m2 m3), .int .i64 0]) ∧ Below w.heap.size w w' := by
 have HG := Lib.hid hG
 have HE := Lib.hid he
 have HME := Lib.hid (mix_err hm)
 have HMX := Lib.hid hm
 clear hG he hm
 go_enter Try.func40, Try.ntmps40
 go_wp2_with fail
 refine (Check_any err miss G d gs _ (HG.out.up zg) hgl).mono ?_
 rw [HE.out]
 rintro e w2 ⟨rfl, hb2⟩
 have Hm2 := Lib.hid (Holds.up (zp4 : Holds _ (w.heap.size + 1) 28 #[.int .i64 m0, .int .i64 m1, .int .i64 m2, .int .i64 m3]) hb2)
 have Hg2 := Lib.hid (Holds.up (zp4 : Holds _ w.heap.size 24 #[.int .i64 err, .int .i64 miss, .slice G gs.length d]) hb2)
 have HB2 : Hid (Below w.heap.size w w2) := Lib.hid (Below.trans zg (hb2.mono (by first | omega | (simp; done) | (simp; omega))))
 obtain ⟨k0, k1, k2, k3⟩ := Hm2.out.c4
 clear hb2
 go_wp2_with fail
 refine (checkMixture_any m0 m1 m2 m3 _).mono ?_
 rw [HME.out]
 rintro e w3 ⟨rfl, hb3⟩
 have Hm3 := Lib.hid (Hm2.out.up hb3)
 have Hg3 := Lib.hid (Hg2.out.up hb3)
 have HB3 := Lib.hid (HB2.out.trans (hb3.mono HB2.out.size))
 clear hb3 k0 k1 k2 k3
 obtain ⟨g0, g1, g2⟩ := Hg3.out.c3
 go_wp2_with fail
 clear g0 g1 g2
 go_loopw [23] (fun v23 wr => ∃ k : Nat, k ≤ gs.length ∧ v23 = .int .i64 (k : Int) ∧ Hid (hasN gs m0 m1 m2 m3 = idxFrom (limB m0 m1 m2 m3) (gs.drop k) k) ∧ Below w.heap.size w wr ∧ Holds wr (w.heap.size + 1) 28 #[.int .i64 m0, .int .i64 m1, .int .i64 m2, .int .i64 m3]) (fun v23 _ => gs.length - (intOf v23).toNat)
 case atStart => exact ⟨0, Nat.zero_le _, rfl, Lib.hid rfl, HB3.out, Hm3.out⟩
 case round =>
  clear HB3 Hm3 HB2 Hm2 Hg2 Hg3
  obtain ⟨k, hk, rfl, hp, hB, hm⟩ := hrel
  have HB := Lib.hid hB
  have Hm := Lib.hid hm
  have lm := hm.lt
  have hszB := hB.size
  clear hB hm
  by_cases hlt : k < gs.length
  ·obtain ⟨B, o, rfl, hcell⟩ := (HG.out.up HB.out) (by omega)
   obtain ⟨c0, c1, c2, c3, c4⟩ := hcell k _ (List.getElem?_eq_getElem hlt)
   clear hcell
   obtain ⟨g, hg⟩ : ∃ z, z = gs[k] := ⟨_, rfl⟩
   rw [← hg] at c0 c1 c2 c3 c4
   have HGG := Lib.hid hg
   clear hg
   have HL := limits_holds HMX.out g
   cases hc : limB m0 m1 m2 m3 g with
   | true =>
    have HC := Lib.hid hc
    have HLH : Hid (g.limits.holds m0 m1 m2 m3 = true) := Lib.hid (HL.trans hc)
    clear hc HL
    have hf : hasN gs m0 m1 m2 m3 = (k : Int) := by rw [hp.out, List.drop_eq_getElem_cons hlt, idxFrom, ← HGG.out, HC.out, if_pos rfl]
    have HF := Lib.hid hf
    clear hf
    go_wp2_with fail
    rename_i Kc hKc
    have HSL := Lib.hid (show slotsOf [some 28, some 29, some 30, some 31] = [28, 29, 30, 31] from rfl)
    refine wp_region_partsG (by kernel_rfl) [some 28, some 29, some 30, some 31] (fun jq xq w' => match jq with
     | 0 => xq 28 = .agg #[.int .i64 g.corn, .int .i64 g.chaff, .int .i64 g.stones, .int .i64 g.damp, .int .i64 g.price]
     | 1 => xq 29 = .agg #[.int .i64 g.corn, .int .i64 40, .int .i64 0, .int .i64 g.chaff, .int .i64 0, .int .i64 g.stones, .int .i64 0, .int .i64 g.damp]
     | 2 => xq 30 = .agg #[.int .i64 m0, .int .i64 m1, .int .i64 m2, .int .i64 m3]
     | 3 => xq 31 = .bool true
     | _ => True) [[28], [29], [30], [31]] [] (fun w' => Below wr.heap.size wr w' ∧ Holds w' wr.heap.size 128 #[.int .i64 g.corn, .int .i64 g.chaff, .int .i64 g.stones, .int .i64 g.damp, .int .i64 g.price]) (by kernel_rfl) ?_ ?_ (fun w' w'' hb h => ⟨h.1.trans (hb.mono h.1.size), h.2.up hb⟩) (⟨zg, Holds.new _ _ _⟩) ?_ ?_ ?_
    ·intro jq xq xq' wq h hv
     match jq, h, hv with
     | 0, h, hv => show xq' 28 = .agg #[.int .i64 g.corn, .int .i64 g.chaff, .int .i64 g.stones, .int .i64 g.damp, .int .i64 g.price]; rw [← h 28 (by decide)]; exact hv
     | 1, h, hv => show xq' 29 = .agg #[.int .i64 g.corn, .int .i64 40, .int .i64 0, .int .i64 g.chaff, .int .i64 0, .int .i64 g.stones, .int .i64 0, .int .i64 g.damp]; rw [← h 29 (by decide)]; exact hv
     | 2, h, hv => show xq' 30 = .agg #[.int .i64 m0, .int .i64 m1, .int .i64 m2, .int .i64 m3]; rw [← h 30 (by decide)]; exact hv
     | 3, h, hv => show xq' 31 = .bool true; rw [← h 31 (by decide)]; exact hv
     | _ + 4, _, _ => trivial
    ·intro jq xq wq w' hb' hv
     match jq, hv with
     | 0, hv => exact hv
     | 1, hv => exact hv
     | 2, hv => exact hv
     | 3, hv => exact hv
     | _ + 4, _ => trivial
    ·intro jq hj
     match jq, hj with
     | 0, hj => exact absurd hj (by decide)
     | 1, hj => exact absurd hj (by decide)
     | 2, hj => exact absurd hj (by decide)
     | 3, hj => exact absurd hj (by decide)
     | _ + 4, _ => trivial
    ·refine ⟨?_, ?_, ?_, ?_, trivial⟩
     ·intro xq w1 hb1 hx K hK0
      have hK := fun v w' hb => hK0 v w' (.inl hb)
      clear hx hKc hK0
      obtain ⟨a0, a1, a2, a3, a4⟩ := hb1.2.c5
      simp only [frameOf, fill, setSlot, sg, Nat.reduceBEq, if_true, if_false, Nat.reduceAdd, Nat.reduceEqDiff, HSL.out] at hK ⊢
      go_wp2_with (fail)
      exact hK _ _ (Below.refl _ _) rfl
     ·intro xq w1 hb1 hx K hK0
      have hK := fun v w' hb => hK0 v w' (.inl hb)
      have e28 : xq 28 = .agg #[.int .i64 g.corn, .int .i64 g.chaff, .int .i64 g.stones, .int .i64 g.damp, .int .i64 g.price] := hx 0 (by rfl) (by rfl)
      clear hx hKc hK0
      simp only [frameOf, fill, setSlot, sg, Nat.reduceBEq, if_true, if_false, Nat.reduceAdd, Nat.reduceEqDiff, HSL.out] at hK ⊢
      simp only [e28] at hK ⊢
      clear e28
      go_wp2_with (go_at_call 106; refine (limits_any g _).mono ?_; rintro e w5 ⟨rfl, hb5⟩)
      exact hK _ _ hb5 rfl
     ·intro xq w1 hb1 hx K hK0
      have hK := fun v w' hb => hK0 v w' (.inl hb)
      clear hx hKc hK0
      have h4 := Hm.out.up hb1.1
      obtain ⟨b0, b1, b2, b3⟩ := h4.c4
      clear h4
      simp only [frameOf, fill, setSlot, sg, Nat.reduceBEq, if_true, if_false, Nat.reduceAdd, Nat.reduceEqDiff, HSL.out] at hK ⊢
      go_wp2_with (fail)
      exact hK _ _ (Below.refl _ _) rfl
     ·intro xq w1 hb1 hx K hK0
      have hK := fun v w' hb => hK0 v w' (.inl hb)
      have e29 : xq 29 = .agg #[.int .i64 g.corn, .int .i64 40, .int .i64 0, .int .i64 g.chaff, .int .i64 0, .int .i64 g.stones, .int .i64 0, .int .i64 g.damp] := hx 1 (by rfl) (by rfl)
      have e30 : xq 30 = .agg #[.int .i64 m0, .int .i64 m1, .int .i64 m2, .int .i64 m3] := hx 2 (by rfl) (by rfl)
      clear hx hKc hK0
      simp only [frameOf, fill, setSlot, sg, Nat.reduceBEq, if_true, if_false, Nat.reduceAdd, Nat.reduceEqDiff, HSL.out] at hK ⊢
      simp only [e29, e30] at hK ⊢
      clear e29 e30
      go_wp2_with (go_at_call 105; refine (holds_any g.limits m0 m1 m2 m3 _).mono ?_; rw [HLH.out]; rintro e w5 ⟨rfl, hb5⟩)
      exact hK _ _ hb5 rfl
    ·intro xq w1 hb1 hx
     have e28 : xq 28 = .agg #[.int .i64 g.corn, .int .i64 g.chaff, .int .i64 g.stones, .int .i64 g.damp, .int .i64 g.price] := hx 0 (by decide)
     have e29 : xq 29 = .agg #[.int .i64 g.corn, .int .i64 40, .int .i64 0, .int .i64 g.chaff, .int .i64 0, .int .i64 g.stones, .int .i64 0, .int .i64 g.damp] := hx 1 (by decide)
     have e30 : xq 30 = .agg #[.int .i64 m0, .int .i64 m1, .int .i64 m2, .int .i64 m3] := hx 2 (by decide)
     have e31 : xq 31 = .bool true := hx 3 (by decide)
     clear hx
     simp only [frameOf, fill, setSlot, sg, Nat.reduceBEq, if_true, if_false, Nat.reduceAdd, Nat.reduceEqDiff, HSL.out]
     simp only [e28, e29, e30, e31]
     clear e28 e29 e30 e31
     refine hKc _ _ ?_
     have HX := Lib.hid hb1.1
     go_wp2_with fail
     go_ret2
     exact ⟨by rw [HF.out]; rfl, HB.out.trans (HX.out.mono hszB)⟩
   | false =>
    have HC := Lib.hid hc
    have HLH : Hid (g.limits.holds m0 m1 m2 m3 = false) := Lib.hid (HL.trans hc)
    clear hc HL
    have hf : hasN gs m0 m1 m2 m3 = idxFrom (limB m0 m1 m2 m3) (gs.drop (k + 1)) (k + 1) := by rw [hp.out, List.drop_eq_getElem_cons hlt, idxFrom, ← HGG.out, HC.out, if_neg (by decide)]
    have HF := Lib.hid hf
    clear hf
    go_wp2_with fail
    rename_i Kc hKc
    have HSL := Lib.hid (show slotsOf [some 28, some 29, some 30, some 31] = [28, 29, 30, 31] from rfl)
    refine wp_region_partsG (by kernel_rfl) [some 28, some 29, some 30, some 31] (fun jq xq w' => match jq with
     | 0 => xq 28 = .agg #[.int .i64 g.corn, .int .i64 g.chaff, .int .i64 g.stones, .int .i64 g.damp, .int .i64 g.price]
     | 1 => xq 29 = .agg #[.int .i64 g.corn, .int .i64 40, .int .i64 0, .int .i64 g.chaff, .int .i64 0, .int .i64 g.stones, .int .i64 0, .int .i64 g.damp]
     | 2 => xq 30 = .agg #[.int .i64 m0, .int .i64 m1, .int .i64 m2, .int .i64 m3]
     | 3 => xq 31 = .bool false
     | _ => True) [[28], [29], [30], [31]] [] (fun w' => Below wr.heap.size wr w' ∧ Holds w' wr.heap.size 128 #[.int .i64 g.corn, .int .i64 g.chaff, .int .i64 g.stones, .int .i64 g.damp, .int .i64 g.price]) (by kernel_rfl) ?_ ?_ (fun w' w'' hb h => ⟨h.1.trans (hb.mono h.1.size), h.2.up hb⟩) (⟨zg, Holds.new _ _ _⟩) ?_ ?_ ?_
    ·intro jq xq xq' wq h hv
     match jq, h, hv with
     | 0, h, hv => show xq' 28 = .agg #[.int .i64 g.corn, .int .i64 g.chaff, .int .i64 g.stones, .int .i64 g.damp, .int .i64 g.price]; rw [← h 28 (by decide)]; exact hv
     | 1, h, hv => show xq' 29 = .agg #[.int .i64 g.corn, .int .i64 40, .int .i64 0, .int .i64 g.chaff, .int .i64 0, .int .i64 g.stones, .int .i64 0, .int .i64 g.damp]; rw [← h 29 (by decide)]; exact hv
     | 2, h, hv => show xq' 30 = .agg #[.int .i64 m0, .int .i64 m1, .int .i64 m2, .int .i64 m3]; rw [← h 30 (by decide)]; exact hv
     | 3, h, hv => show xq' 31 = .bool false; rw [← h 31 (by decide)]; exact hv
     | _ + 4, _, _ => trivial
    ·intro jq xq wq w' hb' hv
     match jq, hv with
     | 0, hv => exact hv
     | 1, hv => exact hv
     | 2, hv => exact hv
     | 3, hv => exact hv
     | _ + 4, _ => trivial
    ·intro jq hj
     match jq, hj with
     | 0, hj => exact absurd hj (by decide)
     | 1, hj => exact absurd hj (by decide)
     | 2, hj => exact absurd hj (by decide)
     | 3, hj => exact absurd hj (by decide)
     | _ + 4, _ => trivial
    ·refine ⟨?_, ?_, ?_, ?_, trivial⟩
     ·intro xq w1 hb1 hx K hK0
      have hK := fun v w' hb => hK0 v w' (.inl hb)
      clear hx hKc hK0
      obtain ⟨a0, a1, a2, a3, a4⟩ := hb1.2.c5
      simp only [frameOf, fill, setSlot, sg, Nat.reduceBEq, if_true, if_false, Nat.reduceAdd, Nat.reduceEqDiff, HSL.out] at hK ⊢
      go_wp2_with (fail)
      exact hK _ _ (Below.refl _ _) rfl
     ·intro xq w1 hb1 hx K hK0
      have hK := fun v w' hb => hK0 v w' (.inl hb)
      have e28 : xq 28 = .agg #[.int .i64 g.corn, .int .i64 g.chaff, .int .i64 g.stones, .int .i64 g.damp, .int .i64 g.price] := hx 0 (by rfl) (by rfl)
      clear hx hKc hK0
      simp only [frameOf, fill, setSlot, sg, Nat.reduceBEq, if_true, if_false, Nat.reduceAdd, Nat.reduceEqDiff, HSL.out] at hK ⊢
      simp only [e28] at hK ⊢
      clear e28
      go_wp2_with (go_at_call 106; refine (limits_any g _).mono ?_; rintro e w5 ⟨rfl, hb5⟩)
      exact hK _ _ hb5 rfl
     ·intro xq w1 hb1 hx K hK0
      have hK := fun v w' hb => hK0 v w' (.inl hb)
      clear hx hKc hK0
      have h4 := Hm.out.up hb1.1
      obtain ⟨b0, b1, b2, b3⟩ := h4.c4
      clear h4
      simp only [frameOf, fill, setSlot, sg, Nat.reduceBEq, if_true, if_false, Nat.reduceAdd, Nat.reduceEqDiff, HSL.out] at hK ⊢
      go_wp2_with (fail)
      exact hK _ _ (Below.refl _ _) rfl
     ·intro xq w1 hb1 hx K hK0
      have hK := fun v w' hb => hK0 v w' (.inl hb)
      have e29 : xq 29 = .agg #[.int .i64 g.corn, .int .i64 40, .int .i64 0, .int .i64 g.chaff, .int .i64 0, .int .i64 g.stones, .int .i64 0, .int .i64 g.damp] := hx 1 (by rfl) (by rfl)
      have e30 : xq 30 = .agg #[.int .i64 m0, .int .i64 m1, .int .i64 m2, .int .i64 m3] := hx 2 (by rfl) (by rfl)
      clear hx hKc hK0
      simp only [frameOf, fill, setSlot, sg, Nat.reduceBEq, if_true, if_false, Nat.reduceAdd, Nat.reduceEqDiff, HSL.out] at hK ⊢
      simp only [e29, e30] at hK ⊢
      clear e29 e30
      go_wp2_with (go_at_call 105; refine (holds_any g.limits m0 m1 m2 m3 _).mono ?_; rw [HLH.out]; rintro e w5 ⟨rfl, hb5⟩)
      exact hK _ _ hb5 rfl
    ·intro xq w1 hb1 hx
     have e28 : xq 28 = .agg #[.int .i64 g.corn, .int .i64 g.chaff, .int .i64 g.stones, .int .i64 g.damp, .int .i64 g.price] := hx 0 (by decide)
     have e29 : xq 29 = .agg #[.int .i64 g.corn, .int .i64 40, .int .i64 0, .int .i64 g.chaff, .int .i64 0, .int .i64 g.stones, .int .i64 0, .int .i64 g.damp] := hx 1 (by decide)
     have e30 : xq 30 = .agg #[.int .i64 m0, .int .i64 m1, .int .i64 m2, .int .i64 m3] := hx 2 (by decide)
     have e31 : xq 31 = .bool false := hx 3 (by decide)
     clear hx
     simp only [frameOf, fill, setSlot, sg, Nat.reduceBEq, if_true, if_false, Nat.reduceAdd, Nat.reduceEqDiff, HSL.out]
     simp only [e28, e29, e30, e31]
     clear e28 e29 e30 e31
     refine hKc _ _ ?_
     have HX := Lib.hid hb1.1
     have Hmx := Lib.hid (Hm.out.up hb1.1)
     go_wp2_with fail
     go_roundw
     case rel => exact ⟨k + 1, hlt, by go_num, HF, HB.out.trans (HX.out.mono hszB), Hmx.out⟩
     case measure => simp [intOf]; omega
  ·have hkl : k = gs.length := by omega
   have hf : hasN gs m0 m1 m2 m3 = -1 := by rw [hp.out, hkl, List.drop_length]; rfl
   have HF := Lib.hid hf
   clear hf
   go_wp2_with fail
   go_ret2
   exact ⟨by rw [HF.out]; rfl, HB.out⟩

open Go.RowKit Go.Maps
theorem box_mix {b : Bx} (o : b.ok) {x0 x1 x2 x3 : Int} (h : b.has x0 x1 x2 x3) (hs : x0 + x1 + x2 + x3 = 40) : Mix4 x0 x1 x2 x3 := by
 have v0 := o.s0.bd
 have v1 := o.s1.bd
 have v2 := o.s2.bd
 have v3 := o.s3.bd
 unfold Bx.has at h
 exact ⟨by omega, by omega, by omega, by omega, hs⟩
theorem holds_has {b : Bx} {x0 x1 x2 x3 : Int} : b.holds x0 x1 x2 x3 = true ↔ b.has x0 x1 x2 x3 := by
 simp only [Bx.holds, within, Bx.has, Bool.and_eq_true, decide_eq_true_eq]

theorem MadeOk.snoc {err miss full emp m0 m1 m2 m3 : Int} {gs : List Gr} {hs : List Hf} (h : MadeOk err miss full emp m0 m1 m2 m3 gs hs) {x : Hf} (hx : TakenOk miss m0 m1 m2 m3 x) : MadeOk err miss full emp m0 m1 m2 m3 gs (hs ++ [x]) :=
 { h with
  taken := by
   intro y hy
   rcases List.mem_append.1 hy with hy | hy
   ·exact h.taken y hy
   ·rw [List.mem_singleton] at hy; subst hy; exact hx }
end Go.Proofs.Ytifffonoipapgaa
