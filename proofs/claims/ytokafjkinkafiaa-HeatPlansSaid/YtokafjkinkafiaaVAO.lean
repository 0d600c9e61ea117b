import Derived.Deep.Cut
import Derived.Deep.CutBlock
import Derived.Deep.CutRange
import Derived.Test.YtokafjkinkafiaaAW
import Derived.Test.YtokafjkinkafiaaVAA
import Derived.Test.YtokafjkinkafiaaVAF
import Derived.Test.YtokafjkinkafiaaVAN
set_option linter.unusedSimpArgs false
set_option linter.unusedVariables false
namespace Go.Proofs.Ytokafjkinkafiaa
open Go.RowKit
theorem awake_any (w : World) : Calls Try.prog 10 #[] w fun e w' => e = .returned (.bool true) ∧ Below w.heap.size w w' := Mini.Awake10 w
theorem ints_cell {w : World} {B o n : Nat} {xs : List Int} {v : Int} (h : IntsAt w (some ⟨B, o, none⟩) xs) (hv : xs[n]? = some v) : w.cell? ⟨B, o + n, none⟩ = some (.int .i64 v) := by
 obtain ⟨B', o', e, hc⟩ := h (Nat.lt_of_le_of_lt (Nat.zero_le _) (List.getElem?_eq_some_iff.1 hv).1)
 cases e
 exact hc n v hv
theorem sp_at {w : World} {B n c : Nat} {A : Option Addr} {l : List (Int × Int)} (h : OwnSp w B (.slice A n c) l) : SpansAt w A l := by
 obtain ⟨A', c', e, _, _, hat⟩ := row_own spLen h
 cases e
 exact hat
theorem OwnSp.lt {w : World} {B : Nat} {v : Value} {l : List (Int × Int)} (h : OwnSp w B v l) : ∀ r, v.ownBlock = some r → r < w.heap.size := fun r e => by
 obtain ⟨_, cs, fr, hc⟩ := h.block r e
 exact (Array.getElem?_eq_some_iff.1 hc).1
theorem sp_low {w w' : World} {B n : Nat} {v : Value} {l : List (Int × Int)} (h : OwnSp w B v l) (hb : Below n w w') (hr : ∀ r, v.ownBlock = some r → r < n) : OwnSp w' B v l := by
 obtain ⟨hl, h | ⟨g, cap, cur, hv, hB, hg, r⟩⟩ := h
 ·exact ⟨hl, .inl h⟩
 ·exact ⟨hl, .inr ⟨g, cap, cur, hv, hB, (hb.block g (hr g (by rw [hv]; rfl))).trans hg, r⟩⟩
theorem aft_cell {bs : List Bn} {ws : List (Int × Int)} {k : Nat} {x : Bn} (hx : bs[k]? = some x) (rest : List Value) : ((aft bs ws k).flatMap Bn.cells ++ rest)[k * 4]? = some (.int .i64 x.warm) := by
 have hf := flat_at Bn.cells 4 Bn.len _ k 0 x (aft_at (ws := ws) hx (Nat.le_refl k)) (by decide)
 rw [Nat.add_zero] at hf
 rw [List.getElem?_append_left (List.getElem?_eq_some_iff.1 (hf.trans (show x.cells[0]? = some (.int .i64 x.warm) from rfl))).1, hf]
 rfl
theorem aft_same {bs : List Bn} {ws : List (Int × Int)} {k : Nat} {x : Bn} {s : Int × Int} (hx : bs[k]? = some x) (hs : ws[k]? = some s) (h : s.2 = x.warm) : aft bs ws (k + 1) = aft bs ws k := by
 rw [← aft_step hx hs, h]
 have h2 := aft_at (ws := ws) hx (Nat.le_refl k)
 apply List.ext_getElem?
 intro i
 by_cases e : i = k
 ·subst e
  rw [List.getElem?_set_self (by rw [aft_len]; exact (List.getElem?_eq_some_iff.1 hx).1), h2]
 ·rw [List.getElem?_set_ne (fun q => e q.symm)]
theorem warm_of_len (b : Br) (bs : List Bn) (p : List (List Int)) (bin : Int) : (warmOf b bs p bin).length ≤ p.length := by
 unfold warmOf
 split
 ·split
  ·rw [pairs_len]; exact Nat.le_refl _
  ·exact Nat.zero_le _
 ·exact Nat.zero_le _
def Stop (p : Prop) : Prop := p
theorem Stop.intro {p : Prop} (h : Stop p) : p := h
theorem row_of_rest {w : World} {B : Nat} {t : TypeId} {xs : List Bn} {rest : List Value} (h : Holds w B t (xs.flatMap Bn.cells ++ rest).toArray) : BinsAt w (some ⟨B, 0, none⟩) xs := fun _ =>
 ⟨B, 0, rfl, fun k x hx j u hj => by
  have hlt : j < 4 := by have := (List.getElem?_eq_some_iff.1 hj).1; rwa [Bn.len] at this
  have hf := flat_at Bn.cells 4 Bn.len xs k j x hx hlt
  have hl : k * 4 + j < (xs.flatMap Bn.cells).length := by rw [hj] at hf; exact (List.getElem?_eq_some_iff.1 hf).1
  rw [Nat.zero_add, h.cell, List.getElem?_toArray, List.getElem?_append_left hl, hf]
  exact hj⟩
theorem set_rest {xs : List Bn} {k : Nat} {x : Bn} (v : Int) (rest : List Value) (hx : xs[k]? = some x) : (xs.flatMap Bn.cells ++ rest).set (k * 4) (.int .i64 v) = (xs.set k ⟨v, x.mark, x.lo, x.hi⟩).flatMap Bn.cells ++ rest := by
 have hf := flat_at Bn.cells 4 Bn.len xs k 0 x hx (by decide)
 have hl : k * 4 < (xs.flatMap Bn.cells).length := by have := (List.getElem?_eq_some_iff.1 (hf.trans (show x.cells[0]? = some (.int .i64 x.warm) from rfl))).1; omega
 rw [List.set_append_left _ _ hl, set_warm v hx]
theorem own_rest {w : World} {B n c : Nat} {t : TypeId} {A : Option Addr} {bs : List Bn} (h : OwnBins w B t (.slice A n c) bs) (hp : 0 < bs.length) : ∃ g rest, A = some ⟨g, 0, none⟩ ∧ B ≤ g ∧ Holds w g t (bs.flatMap Bn.cells ++ rest).toArray := by
 obtain ⟨hl, ⟨hv, hn⟩ | ⟨g, cap, cur, hv, hB, hg, hn, hm, hsz, htk⟩⟩ := h
 ·omega
 ·cases hv
  refine ⟨g, cur.toList.drop (bs.length * 4), rfl, hB, ?_⟩
  rw [← htk, List.take_append_drop]
  exact hg
theorem long_right {p : List (List Int)} (h : longB p = false) : p.length ≤ 24 ∧ ∀ l ∈ p, l.length ≤ 1000 := by
 unfold longB at h
 simp only [Bool.or_eq_false_iff, decide_eq_false_iff_not, List.any_eq_false, decide_eq_true_eq] at h
 exact ⟨by omega, fun l hl => by have := h.2 l hl; omega⟩
theorem ints_of {w : World} {B : Nat} {A : Option Addr} {n c : Nat} {xs : List Int} (h : OwnInts w B (.slice A n c) xs) : IntsAt w A xs := by
 obtain ⟨A', c', e, _, _, hat⟩ := h.at_
 cases e
 exact hat
theorem OwnInts.turn {w w' : World} {B : Nat} {v : Value} {xs : List Int} {row : Option Nat} (h : OwnInts w B v xs) (hg : w.grownBy w' row) (hr : ∀ r, row = some r → ∃ cs fr, w.heap[r]? = some (Obj.cells cs 27 fr)) : OwnInts w' B v xs := by
 obtain ⟨hl, h | ⟨g, cap, cur, hv, hB, hgc, r⟩⟩ := h
 ·exact ⟨hl, .inl h⟩
 ·refine ⟨hl, .inr ⟨g, cap, cur, hv, hB, (hg.block g (Array.getElem?_eq_some_iff.1 hgc).1 (fun e => ?_)).trans hgc, r⟩⟩
  obtain ⟨cs, fr, hc⟩ := hr g e.symm
  rw [hgc] at hc
  cases hc
set_option maxRecDepth 100000 in
set_option maxHeartbeats 40000000 in
theorem HeatPlans_any (b : Br) (A : Option Addr) (c : Nat) (bs : List Bn) (P : Option Addr) (q : Nat) (p : List (List Int)) (bin : Int) (w : World) (hd : bs.length ≤ c) (hm : c ≤ maxLen) (hA : BinsAt w A bs) (hn : A = none → bs.length = 0 ∧ c = 0) (hpp : p.length ≤ 9223372036854775807) (hP : PlanAt w P p) (hPL : ∀ l ∈ p, l.length ≤ 9223372036854775807) :
  Calls Try.prog 4 #[.agg #[.int .i64 b.cool, .int .i64 b.gangs, .int .i64 b.r0, .int .i64 b.r1, .int .i64 b.r2, .int .i64 b.r3, .int .i64 b.r4, .int .i64 b.r5, .slice A bs.length c], .slice P p.length q, .int .i64 bin] w fun e w' => e = .returned (.bool true) ∧ Below w.heap.size w w' := by
 have HA := Lib.hid hA
 have HAN := Lib.hid hn
 have HQ := Lib.hid hP
 have HPL := Lib.hid hPL
 have hll : bs.length ≤ 9223372036854775807 := by unfold maxLen at hm; omega
 clear hA hn hm hP hPL
 cases hgt : decide (8 < bs.length) with
 | true =>
  have HGT := Lib.hid hgt
  clear hgt
  go_enter Try.func4, Try.ntmps4
  go_wp2_with fail
  refine (great_any b A c bs.length hll _).mono ?_
  rw [HGT.out]
  rintro e wq ⟨rfl, hbq⟩
  have Hbq := Lib.hid (Holds.up (zp1 : Holds _ (w.heap.size) 25 #[.int .i64 b.cool, .int .i64 b.gangs, .int .i64 b.r0, .int .i64 b.r1, .int .i64 b.r2, .int .i64 b.r3, .int .i64 b.r4, .int .i64 b.r5, .slice A bs.length c]) hbq)
  have HSq : Hid (Below w.heap.size w wq) := Lib.hid (Below.trans zg (hbq.mono (by first | exact Nat.le_refl _ | omega | (simp; done) | (simp; omega))))
  have HBq := HSq
  have hsq := HBq.out.size
  have hstq := HSq.out.size
  have HAq := Lib.hid (HA.out.up HSq.out)
  have HQq := Lib.hid (HQ.out.up HSq.out)
  clear hbq
  have kb0 : wq.cell? ⟨w.heap.size, 0, none⟩ = some (.int .i64 b.cool) := Hbq.out.cell 0
  have kb1 : wq.cell? ⟨w.heap.size, 1, none⟩ = some (.int .i64 b.gangs) := Hbq.out.cell 1
  have kb2 : wq.cell? ⟨w.heap.size, 2, none⟩ = some (.int .i64 b.r0) := Hbq.out.cell 2
  have kb3 : wq.cell? ⟨w.heap.size, 3, none⟩ = some (.int .i64 b.r1) := Hbq.out.cell 3
  have kb4 : wq.cell? ⟨w.heap.size, 4, none⟩ = some (.int .i64 b.r2) := Hbq.out.cell 4
  have kb5 : wq.cell? ⟨w.heap.size, 5, none⟩ = some (.int .i64 b.r3) := Hbq.out.cell 5
  have kb6 : wq.cell? ⟨w.heap.size, 6, none⟩ = some (.int .i64 b.r4) := Hbq.out.cell 6
  have kb7 : wq.cell? ⟨w.heap.size, 7, none⟩ = some (.int .i64 b.r5) := Hbq.out.cell 7
  have kb8 : wq.cell? ⟨w.heap.size, 8, none⟩ = some (.slice A bs.length c) := Hbq.out.cell 8
  have lt_b : w.heap.size < wq.heap.size := Hbq.out.lt
  go_wp2_with fail
  refine (awake_any _).mono ?_
  rintro e w40 ⟨rfl, hb40⟩
  go_wp2_with fail
  go_ret
  exact ⟨rfl, HBq.out.trans (hb40.mono hsq)⟩
 | false =>
  cases hlo : longB p with
  | true =>
   have HGT := Lib.hid hgt
   have h8 : bs.length ≤ 8 := by have := of_decide_eq_false hgt; omega
   have h8' : bs.length ≤ 1000 := by omega
   clear hgt
   have HLO := Lib.hid hlo
   clear hlo
   go_enter Try.func4, Try.ntmps4
   go_wp2_with fail
   refine (great_any b A c bs.length hll _).mono ?_
   rw [HGT.out]
   rintro e wq ⟨rfl, hbq⟩
   have Hbq := Lib.hid (Holds.up (zp1 : Holds _ (w.heap.size) 25 #[.int .i64 b.cool, .int .i64 b.gangs, .int .i64 b.r0, .int .i64 b.r1, .int .i64 b.r2, .int .i64 b.r3, .int .i64 b.r4, .int .i64 b.r5, .slice A bs.length c]) hbq)
   have HSq : Hid (Below w.heap.size w wq) := Lib.hid (Below.trans zg (hbq.mono (by first | exact Nat.le_refl _ | omega | (simp; done) | (simp; omega))))
   have HBq := HSq
   have hsq := HBq.out.size
   have hstq := HSq.out.size
   have HAq := Lib.hid (HA.out.up HSq.out)
   have HQq := Lib.hid (HQ.out.up HSq.out)
   clear hbq
   have kb0 : wq.cell? ⟨w.heap.size, 0, none⟩ = some (.int .i64 b.cool) := Hbq.out.cell 0
   have kb1 : wq.cell? ⟨w.heap.size, 1, none⟩ = some (.int .i64 b.gangs) := Hbq.out.cell 1
   have kb2 : wq.cell? ⟨w.heap.size, 2, none⟩ = some (.int .i64 b.r0) := Hbq.out.cell 2
   have kb3 : wq.cell? ⟨w.heap.size, 3, none⟩ = some (.int .i64 b.r1) := Hbq.out.cell 3
   have kb4 : wq.cell? ⟨w.heap.size, 4, none⟩ = some (.int .i64 b.r2) := Hbq.out.cell 4
   have kb5 : wq.cell? ⟨w.heap.size, 5, none⟩ = some (.int .i64 b.r3) := Hbq.out.cell 5
   have kb6 : wq.cell? ⟨w.heap.size, 6, none⟩ = some (.int .i64 b.r4) := Hbq.out.cell 6
   have kb7 : wq.cell? ⟨w.heap.size, 7, none⟩ = some (.int .i64 b.r5) := Hbq.out.cell 7
   have kb8 : wq.cell? ⟨w.heap.size, 8, none⟩ = some (.slice A bs.length c) := Hbq.out.cell 8
   have lt_b : w.heap.size < wq.heap.size := Hbq.out.lt
   go_wp2_with fail
   refine (long_any P q p _ (HQq.out.up zg) hpp HPL.out).mono ?_
   rw [HLO.out]
   rintro e wv ⟨rfl, hbv⟩
   have Hbv := Lib.hid (Holds.up (by have h := Hbq.out; exact zp1 : Holds _ (w.heap.size) 25 #[.int .i64 b.cool, .int .i64 b.gangs, .int .i64 b.r0, .int .i64 b.r1, .int .i64 b.r2, .int .i64 b.r3, .int .i64 b.r4, .int .i64 b.r5, .slice A bs.length c]) hbv)
   have HSv : Hid (Below wq.heap.size wq wv) := Lib.hid (Below.trans zg (hbv.mono (by first | exact Nat.le_refl _ | omega | (simp; done) | (simp; omega))))
   have HBv : Hid (Below w.heap.size w wv) := Lib.hid (HBq.out.trans (HSv.out.mono hsq))
   have hsv := HBv.out.size
   have hstv := HSv.out.size
   have HAv := Lib.hid (HAq.out.up HSv.out)
   have HQv := Lib.hid (HQq.out.up HSv.out)
   clear hbv
   clear kb0 kb1 kb2 kb3 kb4 kb5 kb6 kb7 kb8 lt_b
   have kb0 : wv.cell? ⟨w.heap.size, 0, none⟩ = some (.int .i64 b.cool) := Hbv.out.cell 0
   have kb1 : wv.cell? ⟨w.heap.size, 1, none⟩ = some (.int .i64 b.gangs) := Hbv.out.cell 1
   have kb2 : wv.cell? ⟨w.heap.size, 2, none⟩ = some (.int .i64 b.r0) := Hbv.out.cell 2
   have kb3 : wv.cell? ⟨w.heap.size, 3, none⟩ = some (.int .i64 b.r1) := Hbv.out.cell 3
   have kb4 : wv.cell? ⟨w.heap.size, 4, none⟩ = some (.int .i64 b.r2) := Hbv.out.cell 4
   have kb5 : wv.cell? ⟨w.heap.size, 5, none⟩ = some (.int .i64 b.r3) := Hbv.out.cell 5
   have kb6 : wv.cell? ⟨w.heap.size, 6, none⟩ = some (.int .i64 b.r4) := Hbv.out.cell 6
   have kb7 : wv.cell? ⟨w.heap.size, 7, none⟩ = some (.int .i64 b.r5) := Hbv.out.cell 7
   have kb8 : wv.cell? ⟨w.heap.size, 8, none⟩ = some (.slice A bs.length c) := Hbv.out.cell 8
   have lt_b : w.heap.size < wv.heap.size := Hbv.out.lt
   go_wp2_with fail
   refine (awake_any _).mono ?_
   rintro e w40 ⟨rfl, hb40⟩
   go_wp2_with fail
   go_ret
   exact ⟨rfl, HBv.out.trans (hb40.mono hsv)⟩
  | false =>
   obtain ⟨hp24, hll2⟩ := long_right hlo
   have HLL := Lib.hid hll2
   clear hll2
   have HGT := Lib.hid hgt
   have h8 : bs.length ≤ 8 := by have := of_decide_eq_false hgt; omega
   have h8' : bs.length ≤ 1000 := by omega
   clear hgt
   have HLO := Lib.hid hlo
   clear hlo
   go_enter Try.func4, Try.ntmps4
   go_wp2_with fail
   refine (great_any b A c bs.length hll _).mono ?_
   rw [HGT.out]
   rintro e wq ⟨rfl, hbq⟩
   have Hbq := Lib.hid (Holds.up (zp1 : Holds _ (w.heap.size) 25 #[.int .i64 b.cool, .int .i64 b.gangs, .int .i64 b.r0, .int .i64 b.r1, .int .i64 b.r2, .int .i64 b.r3, .int .i64 b.r4, .int .i64 b.r5, .slice A bs.length c]) hbq)
   have HSq : Hid (Below w.heap.size w wq) := Lib.hid (Below.trans zg (hbq.mono (by first | exact Nat.le_refl _ | omega | (simp; done) | (simp; omega))))
   have HBq := HSq
   have hsq := HBq.out.size
   have hstq := HSq.out.size
   have HAq := Lib.hid (HA.out.up HSq.out)
   have HQq := Lib.hid (HQ.out.up HSq.out)
   clear hbq
   have kb0 : wq.cell? ⟨w.heap.size, 0, none⟩ = some (.int .i64 b.cool) := Hbq.out.cell 0
   have kb1 : wq.cell? ⟨w.heap.size, 1, none⟩ = some (.int .i64 b.gangs) := Hbq.out.cell 1
   have kb2 : wq.cell? ⟨w.heap.size, 2, none⟩ = some (.int .i64 b.r0) := Hbq.out.cell 2
   have kb3 : wq.cell? ⟨w.heap.size, 3, none⟩ = some (.int .i64 b.r1) := Hbq.out.cell 3
   have kb4 : wq.cell? ⟨w.heap.size, 4, none⟩ = some (.int .i64 b.r2) := Hbq.out.cell 4
   have kb5 : wq.cell? ⟨w.heap.size, 5, none⟩ = some (.int .i64 b.r3) := Hbq.out.cell 5
   have kb6 : wq.cell? ⟨w.heap.size, 6, none⟩ = some (.int .i64 b.r4) := Hbq.out.cell 6
   have kb7 : wq.cell? ⟨w.heap.size, 7, none⟩ = some (.int .i64 b.r5) := Hbq.out.cell 7
   have kb8 : wq.cell? ⟨w.heap.size, 8, none⟩ = some (.slice A bs.length c) := Hbq.out.cell 8
   have lt_b : w.heap.size < wq.heap.size := Hbq.out.lt
   go_wp2_with fail
   refine (long_any P q p _ (HQq.out.up zg) hpp HPL.out).mono ?_
   rw [HLO.out]
   rintro e wv ⟨rfl, hbv⟩
   have Hbv := Lib.hid (Holds.up (by have h := Hbq.out; exact zp1 : Holds _ (w.heap.size) 25 #[.int .i64 b.cool, .int .i64 b.gangs, .int .i64 b.r0, .int .i64 b.r1, .int .i64 b.r2, .int .i64 b.r3, .int .i64 b.r4, .int .i64 b.r5, .slice A bs.length c]) hbv)
   have HSv : Hid (Below wq.heap.size wq wv) := Lib.hid (Below.trans zg (hbv.mono (by first | exact Nat.le_refl _ | omega | (simp; done) | (simp; omega))))
   have HBv : Hid (Below w.heap.size w wv) := Lib.hid (HBq.out.trans (HSv.out.mono hsq))
   have hsv := HBv.out.size
   have hstv := HSv.out.size
   have HAv := Lib.hid (HAq.out.up HSv.out)
   have HQv := Lib.hid (HQq.out.up HSv.out)
   clear hbv
   clear kb0 kb1 kb2 kb3 kb4 kb5 kb6 kb7 kb8 lt_b
   have kb0 : wv.cell? ⟨w.heap.size, 0, none⟩ = some (.int .i64 b.cool) := Hbv.out.cell 0
   have kb1 : wv.cell? ⟨w.heap.size, 1, none⟩ = some (.int .i64 b.gangs) := Hbv.out.cell 1
   have kb2 : wv.cell? ⟨w.heap.size, 2, none⟩ = some (.int .i64 b.r0) := Hbv.out.cell 2
   have kb3 : wv.cell? ⟨w.heap.size, 3, none⟩ = some (.int .i64 b.r1) := Hbv.out.cell 3
   have kb4 : wv.cell? ⟨w.heap.size, 4, none⟩ = some (.int .i64 b.r2) := Hbv.out.cell 4
   have kb5 : wv.cell? ⟨w.heap.size, 5, none⟩ = some (.int .i64 b.r3) := Hbv.out.cell 5
   have kb6 : wv.cell? ⟨w.heap.size, 6, none⟩ = some (.int .i64 b.r4) := Hbv.out.cell 6
   have kb7 : wv.cell? ⟨w.heap.size, 7, none⟩ = some (.int .i64 b.r5) := Hbv.out.cell 7
   have kb8 : wv.cell? ⟨w.heap.size, 8, none⟩ = some (.slice A bs.length c) := Hbv.out.cell 8
   have lt_b : w.heap.size < wv.heap.size := Hbv.out.lt
   go_wp2_with fail
   rename_i Kc hKc
   have HSL := Lib.hid (show slotsOf [some 40, some 41, some 42, some 43, some 44, some 45, some 7, some 8, none, none, some 9] = [40, 41, 42, 43, 44, 45, 7, 8, 9] from rfl)
   refine wp_region_partsG (by kernel_rfl) [some 40, some 41, some 42, some 43, some 44, some 45, some 7, some 8, none, none, some 9] (fun jq xq w' => match jq with
    | 0 => xq 40 = .agg #[.int .i64 b.cool, .int .i64 b.gangs, .int .i64 b.r0, .int .i64 b.r1, .int .i64 b.r2, .int .i64 b.r3, .int .i64 b.r4, .int .i64 b.r5, .slice A bs.length c]
    | 1 => ∃ A1 c1, xq 41 = .agg #[.int .i64 b.cool, .int .i64 b.gangs, .int .i64 b.r0, .int .i64 b.r1, .int .i64 b.r2, .int .i64 b.r3, .int .i64 b.r4, .int .i64 b.r5, .slice A1 bs.length c1] ∧ OwnBins w' wv.heap.size 39 (.slice A1 bs.length c1) bs
    | 2 => xq 42 = .agg #[.int .i64 b.cool, .int .i64 b.gangs, .int .i64 b.r0, .int .i64 b.r1, .int .i64 b.r2, .int .i64 b.r3, .int .i64 b.r4, .int .i64 b.r5, .slice A bs.length c]
    | 3 => ∃ A2 c2, xq 43 = .agg #[.int .i64 b.cool, .int .i64 b.gangs, .int .i64 b.r0, .int .i64 b.r1, .int .i64 b.r2, .int .i64 b.r3, .int .i64 b.r4, .int .i64 b.r5, .slice A2 bs.length c2] ∧ OwnBins w' wv.heap.size 91 (.slice A2 bs.length c2) bs
    | 4 => xq 44 = .slice P p.length q
    | 5 => ∃ A3, xq 45 = .slice A3 p.length p.length ∧ PlanT w' A3 p
    | 6 => ∃ z, xq 7 = .pointer (some ⟨z, 0, none⟩) ∧ wv.heap.size ≤ z ∧ Holds w' z 25 #[.int .i64 0, .int .i64 0, .int .i64 0, .int .i64 0, .int .i64 0, .int .i64 0, .int .i64 0, .int .i64 0, .slice none 0 0]
    | 7 => ∃ z, xq 8 = .pointer (some ⟨z, 0, none⟩) ∧ wv.heap.size ≤ z ∧ Holds w' z 33 #[.int .i64 0, .int .i64 0, .int .i64 0, .int .i64 0, .int .i64 0, .int .i64 0, .int .i64 0, .int .i64 0, .slice none 0 0]
    | 8 => ∃ z A1 c1, xq 7 = .pointer (some ⟨z, 0, none⟩) ∧ Holds w' z 25 #[.int .i64 b.cool, .int .i64 b.gangs, .int .i64 b.r0, .int .i64 b.r1, .int .i64 b.r2, .int .i64 b.r3, .int .i64 b.r4, .int .i64 b.r5, .slice A1 bs.length c1] ∧ OwnBins w' wv.heap.size 39 (.slice A1 bs.length c1) bs ∧ wv.heap.size ≤ z
    | 9 => ∃ z A2 c2, xq 8 = .pointer (some ⟨z, 0, none⟩) ∧ Holds w' z 33 #[.int .i64 b.cool, .int .i64 b.gangs, .int .i64 b.r0, .int .i64 b.r1, .int .i64 b.r2, .int .i64 b.r3, .int .i64 b.r4, .int .i64 b.r5, .slice A2 bs.length c2] ∧ OwnBins w' wv.heap.size 91 (.slice A2 bs.length c2) bs ∧ wv.heap.size ≤ z
    | 10 => ∃ A3, xq 9 = .slice A3 p.length p.length ∧ PlanT w' A3 p
    | _ => True) [[40], [41], [42], [43], [44], [45], [7], [8], [7], [8], [9]] [(8, 6), (9, 7)] (fun w' => Below wv.heap.size wv w') (by kernel_rfl)  ?_ ?_ (fun w' w'' hb h => h.trans (hb.mono h.size)) (Below.refl _ _) ?_ ?_ ?_
   ·intro jq xq xq' wqq h hv
    match jq, h, hv with
    | 0, h, hv => show xq' 40 = .agg #[.int .i64 b.cool, .int .i64 b.gangs, .int .i64 b.r0, .int .i64 b.r1, .int .i64 b.r2, .int .i64 b.r3, .int .i64 b.r4, .int .i64 b.r5, .slice A bs.length c]; rw [← h 40 (by decide)]; exact hv
    | 1, h, hv => show ∃ A1 c1, xq' 41 = .agg #[.int .i64 b.cool, .int .i64 b.gangs, .int .i64 b.r0, .int .i64 b.r1, .int .i64 b.r2, .int .i64 b.r3, .int .i64 b.r4, .int .i64 b.r5, .slice A1 bs.length c1] ∧ OwnBins wqq wv.heap.size 39 (.slice A1 bs.length c1) bs; rw [← h 41 (by decide)]; exact hv
    | 2, h, hv => show xq' 42 = .agg #[.int .i64 b.cool, .int .i64 b.gangs, .int .i64 b.r0, .int .i64 b.r1, .int .i64 b.r2, .int .i64 b.r3, .int .i64 b.r4, .int .i64 b.r5, .slice A bs.length c]; rw [← h 42 (by decide)]; exact hv
    | 3, h, hv => show ∃ A2 c2, xq' 43 = .agg #[.int .i64 b.cool, .int .i64 b.gangs, .int .i64 b.r0, .int .i64 b.r1, .int .i64 b.r2, .int .i64 b.r3, .int .i64 b.r4, .int .i64 b.r5, .slice A2 bs.length c2] ∧ OwnBins wqq wv.heap.size 91 (.slice A2 bs.length c2) bs; rw [← h 43 (by decide)]; exact hv
    | 4, h, hv => show xq' 44 = .slice P p.length q; rw [← h 44 (by decide)]; exact hv
    | 5, h, hv => show ∃ A3, xq' 45 = .slice A3 p.length p.length ∧ PlanT wqq A3 p; rw [← h 45 (by decide)]; exact hv
    | 6, h, hv => show ∃ z, xq' 7 = .pointer (some ⟨z, 0, none⟩) ∧ wv.heap.size ≤ z ∧ Holds wqq z 25 #[.int .i64 0, .int .i64 0, .int .i64 0, .int .i64 0, .int .i64 0, .int .i64 0, .int .i64 0, .int .i64 0, .slice none 0 0]; rw [← h 7 (by decide)]; exact hv
    | 7, h, hv => show ∃ z, xq' 8 = .pointer (some ⟨z, 0, none⟩) ∧ wv.heap.size ≤ z ∧ Holds wqq z 33 #[.int .i64 0, .int .i64 0, .int .i64 0, .int .i64 0, .int .i64 0, .int .i64 0, .int .i64 0, .int .i64 0, .slice none 0 0]; rw [← h 8 (by decide)]; exact hv
    | 8, h, hv => show ∃ z A1 c1, xq' 7 = .pointer (some ⟨z, 0, none⟩) ∧ Holds wqq z 25 #[.int .i64 b.cool, .int .i64 b.gangs, .int .i64 b.r0, .int .i64 b.r1, .int .i64 b.r2, .int .i64 b.r3, .int .i64 b.r4, .int .i64 b.r5, .slice A1 bs.length c1] ∧ OwnBins wqq wv.heap.size 39 (.slice A1 bs.length c1) bs ∧ wv.heap.size ≤ z; rw [← h 7 (by decide)]; exact hv
    | 9, h, hv => show ∃ z A2 c2, xq' 8 = .pointer (some ⟨z, 0, none⟩) ∧ Holds wqq z 33 #[.int .i64 b.cool, .int .i64 b.gangs, .int .i64 b.r0, .int .i64 b.r1, .int .i64 b.r2, .int .i64 b.r3, .int .i64 b.r4, .int .i64 b.r5, .slice A2 bs.length c2] ∧ OwnBins wqq wv.heap.size 91 (.slice A2 bs.length c2) bs ∧ wv.heap.size ≤ z; rw [← h 8 (by decide)]; exact hv
    | 10, h, hv => show ∃ A3, xq' 9 = .slice A3 p.length p.length ∧ PlanT wqq A3 p; rw [← h 9 (by decide)]; exact hv
    | _ + 11, _, _ => trivial
   ·intro jq xq wqq w' hb' hv
    match jq, hv with
    | 0, hv => exact hv
    | 1, ⟨b0, b1, h0, h1⟩ => exact ⟨b0, b1, h0, h1.up hb'⟩
    | 2, hv => exact hv
    | 3, ⟨b0, b1, h0, h1⟩ => exact ⟨b0, b1, h0, h1.up hb'⟩
    | 4, hv => exact hv
    | 5, ⟨b0, h0, h1⟩ => exact ⟨b0, h0, h1.up hb'⟩
    | 6, ⟨b0, h0, h1, h2⟩ => exact ⟨b0, h0, h1, h2.up hb'⟩
    | 7, ⟨b0, h0, h1, h2⟩ => exact ⟨b0, h0, h1, h2.up hb'⟩
    | 8, ⟨b0, b1, b2, h0, h1, h2, h3⟩ => exact ⟨b0, b1, b2, h0, h1.up hb', h2.up hb', h3⟩
    | 9, ⟨b0, b1, b2, h0, h1, h2, h3⟩ => exact ⟨b0, b1, b2, h0, h1.up hb', h2.up hb', h3⟩
    | 10, ⟨b0, h0, h1⟩ => exact ⟨b0, h0, h1.up hb'⟩
    | _ + 11, _ => trivial
   ·intro jq hj
    match jq, hj with
    | 0, hj => exact absurd hj (by decide)
    | 1, hj => exact absurd hj (by decide)
    | 2, hj => exact absurd hj (by decide)
    | 3, hj => exact absurd hj (by decide)
    | 4, hj => exact absurd hj (by decide)
    | 5, hj => exact absurd hj (by decide)
    | 6, hj => exact absurd hj (by decide)
    | 7, hj => exact absurd hj (by decide)
    | 8, hj => exact absurd hj (by decide)
    | 9, hj => exact absurd hj (by decide)
    | 10, hj => exact absurd hj (by decide)
    | _ + 11, _ => trivial
   ·refine ⟨?_, ?_, ?_, ?_, ?_, ?_, ?_, ?_, ?_, ?_, ?_, trivial⟩
    ·intro xq wa hba hx K hK0
     have hK := fun v w' hb => hK0 v w' (.inl hb)
     clear hx hKc hK0
     have kb0' : wa.cell? ⟨w.heap.size, 0, none⟩ = some (.int .i64 b.cool) := (Hbv.out.up hba).cell 0
     have kb1' : wa.cell? ⟨w.heap.size, 1, none⟩ = some (.int .i64 b.gangs) := (Hbv.out.up hba).cell 1
     have kb2' : wa.cell? ⟨w.heap.size, 2, none⟩ = some (.int .i64 b.r0) := (Hbv.out.up hba).cell 2
     have kb3' : wa.cell? ⟨w.heap.size, 3, none⟩ = some (.int .i64 b.r1) := (Hbv.out.up hba).cell 3
     have kb4' : wa.cell? ⟨w.heap.size, 4, none⟩ = some (.int .i64 b.r2) := (Hbv.out.up hba).cell 4
     have kb5' : wa.cell? ⟨w.heap.size, 5, none⟩ = some (.int .i64 b.r3) := (Hbv.out.up hba).cell 5
     have kb6' : wa.cell? ⟨w.heap.size, 6, none⟩ = some (.int .i64 b.r4) := (Hbv.out.up hba).cell 6
     have kb7' : wa.cell? ⟨w.heap.size, 7, none⟩ = some (.int .i64 b.r5) := (Hbv.out.up hba).cell 7
     have kb8' : wa.cell? ⟨w.heap.size, 8, none⟩ = some (.slice A bs.length c) := (Hbv.out.up hba).cell 8
     simp only [frameOf, fill, setSlot, sg, Nat.reduceBEq, if_true, if_false, Nat.reduceAdd, Nat.reduceEqDiff, HSL.out] at hK ⊢
     go_wp2_with (fail)
     exact hK _ _ (Below.refl _ _) rfl
    ·intro xq wa hba hx K hK0
     have hK := fun v w' hb => hK0 v w' (.inl hb)
     have e40 : xq 40 = .agg #[.int .i64 b.cool, .int .i64 b.gangs, .int .i64 b.r0, .int .i64 b.r1, .int .i64 b.r2, .int .i64 b.r3, .int .i64 b.r4, .int .i64 b.r5, .slice A bs.length c] := hx 0 (by rfl) (by rfl)
     clear hx hKc hK0
     simp only [frameOf, fill, setSlot, sg, Nat.reduceBEq, if_true, if_false, Nat.reduceAdd, Nat.reduceEqDiff, HSL.out] at hK ⊢
     simp only [e40] at hK ⊢
     clear e40
     go_wp2_with (go_at_call 11; refine (Own_any b A c bs _ (HAv.out.up hba) h8' HAN.out).mono ?_; rintro e w2_ ⟨G1, d1, rfl, hown, hb_⟩)
     exact hK _ _ hb_ ⟨_, _, rfl, rowq_mono hown hba.size⟩
    ·intro xq wa hba hx K hK0
     have hK := fun v w' hb => hK0 v w' (.inl hb)
     clear hx hKc hK0
     have kb0' : wa.cell? ⟨w.heap.size, 0, none⟩ = some (.int .i64 b.cool) := (Hbv.out.up hba).cell 0
     have kb1' : wa.cell? ⟨w.heap.size, 1, none⟩ = some (.int .i64 b.gangs) := (Hbv.out.up hba).cell 1
     have kb2' : wa.cell? ⟨w.heap.size, 2, none⟩ = some (.int .i64 b.r0) := (Hbv.out.up hba).cell 2
     have kb3' : wa.cell? ⟨w.heap.size, 3, none⟩ = some (.int .i64 b.r1) := (Hbv.out.up hba).cell 3
     have kb4' : wa.cell? ⟨w.heap.size, 4, none⟩ = some (.int .i64 b.r2) := (Hbv.out.up hba).cell 4
     have kb5' : wa.cell? ⟨w.heap.size, 5, none⟩ = some (.int .i64 b.r3) := (Hbv.out.up hba).cell 5
     have kb6' : wa.cell? ⟨w.heap.size, 6, none⟩ = some (.int .i64 b.r4) := (Hbv.out.up hba).cell 6
     have kb7' : wa.cell? ⟨w.heap.size, 7, none⟩ = some (.int .i64 b.r5) := (Hbv.out.up hba).cell 7
     have kb8' : wa.cell? ⟨w.heap.size, 8, none⟩ = some (.slice A bs.length c) := (Hbv.out.up hba).cell 8
     simp only [frameOf, fill, setSlot, sg, Nat.reduceBEq, if_true, if_false, Nat.reduceAdd, Nat.reduceEqDiff, HSL.out] at hK ⊢
     go_wp2_with (fail)
     exact hK _ _ (Below.refl _ _) rfl
    ·intro xq wa hba hx K hK0
     have hK := fun v w' hb => hK0 v w' (.inl hb)
     have e42 : xq 42 = .agg #[.int .i64 b.cool, .int .i64 b.gangs, .int .i64 b.r0, .int .i64 b.r1, .int .i64 b.r2, .int .i64 b.r3, .int .i64 b.r4, .int .i64 b.r5, .slice A bs.length c] := hx 2 (by rfl) (by rfl)
     clear hx hKc hK0
     simp only [frameOf, fill, setSlot, sg, Nat.reduceBEq, if_true, if_false, Nat.reduceAdd, Nat.reduceEqDiff, HSL.out] at hK ⊢
     simp only [e42] at hK ⊢
     clear e42
     go_wp2_with (go_at_call 12; refine (theirs_any b A c bs _ (HAv.out.up hba) h8').mono ?_; rintro e w2_ ⟨G1, d1, rfl, hown, hb_⟩)
     exact hK _ _ hb_ ⟨_, _, rfl, rowq_mono hown hba.size⟩
    ·intro xq wa hba hx K hK0
     have hK := fun v w' hb => hK0 v w' (.inl hb)
     clear hx hKc hK0
     simp only [frameOf, fill, setSlot, sg, Nat.reduceBEq, if_true, if_false, Nat.reduceAdd, Nat.reduceEqDiff, HSL.out] at hK ⊢
     go_wp2_with (fail)
     exact hK _ _ (Below.refl _ _) rfl
    ·intro xq wa hba hx K hK0
     have hK := fun v w' hb => hK0 v w' (.inl hb)
     have e44 : xq 44 = .slice P p.length q := hx 4 (by rfl) (by rfl)
     clear hx hKc hK0
     simp only [frameOf, fill, setSlot, sg, Nat.reduceBEq, if_true, if_false, Nat.reduceAdd, Nat.reduceEqDiff, HSL.out] at hK ⊢
     simp only [e44] at hK ⊢
     clear e44
     go_wp2_with (go_at_call 23; refine (DupRowsT_any P q p _ (HQv.out.up hba) (by omega) HLL.out).mono ?_; rintro e w2_ ⟨G1, rfl, hpt, hb_⟩)
     exact hK _ _ hb_ ⟨_, rfl, hpt⟩
    ·intro xq wa hba hx K hK0
     have hK := fun v w' hb => hK0 v w' (.inl hb)
     clear hx hKc hK0
     simp only [frameOf, fill, setSlot, sg, Nat.reduceBEq, if_true, if_false, Nat.reduceAdd, Nat.reduceEqDiff, HSL.out] at hK ⊢
     go_wp2_with (fail)
     exact hK _ _ ((Below.refl _ _).alloc (Nat.le_refl _) _) ⟨_, rfl, hba.size, Holds.new _ _ _⟩
    ·intro xq wa hba hx K hK0
     have hK := fun v w' hb => hK0 v w' (.inl hb)
     clear hx hKc hK0
     simp only [frameOf, fill, setSlot, sg, Nat.reduceBEq, if_true, if_false, Nat.reduceAdd, Nat.reduceEqDiff, HSL.out] at hK ⊢
     go_wp2_with (fail)
     exact hK _ _ ((Below.refl _ _).alloc (Nat.le_refl _) _) ⟨_, rfl, hba.size, Holds.new _ _ _⟩
    ·intro xq wa hba hx K hK0
     have hK := fun v w' hb => hK0 v w' (.inr hb)
     obtain ⟨A141, c141, e41, f41_0⟩ := hx 1 (by rfl) (by rfl)
     obtain ⟨z7, e7, f7_0, f7_1⟩ := hx 6 (by rfl) (by rfl)
     clear hx hKc hK0
     have kb0 : wa.cell? ⟨z7, 0, none⟩ = some (.int .i64 0) := f7_1.cell 0
     have kb1 : wa.cell? ⟨z7, 1, none⟩ = some (.int .i64 0) := f7_1.cell 1
     have kb2 : wa.cell? ⟨z7, 2, none⟩ = some (.int .i64 0) := f7_1.cell 2
     have kb3 : wa.cell? ⟨z7, 3, none⟩ = some (.int .i64 0) := f7_1.cell 3
     have kb4 : wa.cell? ⟨z7, 4, none⟩ = some (.int .i64 0) := f7_1.cell 4
     have kb5 : wa.cell? ⟨z7, 5, none⟩ = some (.int .i64 0) := f7_1.cell 5
     have kb6 : wa.cell? ⟨z7, 6, none⟩ = some (.int .i64 0) := f7_1.cell 6
     have kb7 : wa.cell? ⟨z7, 7, none⟩ = some (.int .i64 0) := f7_1.cell 7
     have kb8 : wa.cell? ⟨z7, 8, none⟩ = some (.slice none 0 0) := f7_1.cell 8
     have zb0 : wa.frozen? ⟨z7, 0, none⟩ = false := f7_1.frozen 0
     have zb1 : wa.frozen? ⟨z7, 1, none⟩ = false := f7_1.frozen 1
     have zb2 : wa.frozen? ⟨z7, 2, none⟩ = false := f7_1.frozen 2
     have zb3 : wa.frozen? ⟨z7, 3, none⟩ = false := f7_1.frozen 3
     have zb4 : wa.frozen? ⟨z7, 4, none⟩ = false := f7_1.frozen 4
     have zb5 : wa.frozen? ⟨z7, 5, none⟩ = false := f7_1.frozen 5
     have zb6 : wa.frozen? ⟨z7, 6, none⟩ = false := f7_1.frozen 6
     have zb7 : wa.frozen? ⟨z7, 7, none⟩ = false := f7_1.frozen 7
     have zb8 : wa.frozen? ⟨z7, 8, none⟩ = false := f7_1.frozen 8
     simp only [frameOf, fill, setSlot, sg, Nat.reduceBEq, if_true, if_false, Nat.reduceAdd, Nat.reduceEqDiff, HSL.out] at hK ⊢
     have E41 := Lib.hid e41
     have E7 := Lib.hid e7
     simp only [e41, e7] at hK ⊢
     clear e41 e7
     go_wp2_with (fail)
     refine hK undef _ ⟨(by have h := hba; exact zg), ?_⟩ ⟨_, _, _, rfl, Holds.set9 _ _ _ _ _ _ _ _ _ f7_1, own_set9 f41_0 f7_1 (by decide), f7_0⟩
     intro jq xq hd hne hv
     match jq, hd, hne, hv with
     | 0, _, _, hv => exact hv
     | 1, _, _, hv => obtain ⟨a1_, d1_, e1, h1⟩ := hv; exact ⟨a1_, d1_, e1, own_set9 h1 f7_1 (by decide)⟩
     | 2, _, _, hv => exact hv
     | 3, _, _, hv => obtain ⟨a1_, d1_, e1, h1⟩ := hv; exact ⟨a1_, d1_, e1, own_set9 h1 f7_1 (by decide)⟩
     | 4, _, _, hv => exact hv
     | 5, _, _, hv => obtain ⟨a1_, e1, h1⟩ := hv; exact ⟨a1_, e1, h1.set9 f7_1 (by decide) (by decide)⟩
     | 6, hd, _, _ => exact absurd hd (by decide)
     | 7, _, _, hv => obtain ⟨b_, e1, h0, h1⟩ := hv; exact ⟨b_, e1, h0, h1.set9_ne f7_1 (by decide)⟩
     | 8, _, hne, _ => exact absurd rfl hne
     | 9, _, _, hv => obtain ⟨b_, a1_, d1_, e1, h0, h1, h2⟩ := hv; exact ⟨b_, a1_, d1_, e1, h0.set9_ne f7_1 (by decide), own_set9 h1 f7_1 (by decide), h2⟩
     | 10, _, _, hv => obtain ⟨a1_, e1, h1⟩ := hv; exact ⟨a1_, e1, h1.set9 f7_1 (by decide) (by decide)⟩
     | _ + 11, _, _, _ => trivial
    ·intro xq wa hba hx K hK0
     have hK := fun v w' hb => hK0 v w' (.inr hb)
     obtain ⟨A243, c243, e43, f43_0⟩ := hx 3 (by rfl) (by rfl)
     obtain ⟨z8, e8, f8_0, f8_1⟩ := hx 7 (by rfl) (by rfl)
     clear hx hKc hK0
     have kb0 : wa.cell? ⟨z8, 0, none⟩ = some (.int .i64 0) := f8_1.cell 0
     have kb1 : wa.cell? ⟨z8, 1, none⟩ = some (.int .i64 0) := f8_1.cell 1
     have kb2 : wa.cell? ⟨z8, 2, none⟩ = some (.int .i64 0) := f8_1.cell 2
     have kb3 : wa.cell? ⟨z8, 3, none⟩ = some (.int .i64 0) := f8_1.cell 3
     have kb4 : wa.cell? ⟨z8, 4, none⟩ = some (.int .i64 0) := f8_1.cell 4
     have kb5 : wa.cell? ⟨z8, 5, none⟩ = some (.int .i64 0) := f8_1.cell 5
     have kb6 : wa.cell? ⟨z8, 6, none⟩ = some (.int .i64 0) := f8_1.cell 6
     have kb7 : wa.cell? ⟨z8, 7, none⟩ = some (.int .i64 0) := f8_1.cell 7
     have kb8 : wa.cell? ⟨z8, 8, none⟩ = some (.slice none 0 0) := f8_1.cell 8
     have zb0 : wa.frozen? ⟨z8, 0, none⟩ = false := f8_1.frozen 0
     have zb1 : wa.frozen? ⟨z8, 1, none⟩ = false := f8_1.frozen 1
     have zb2 : wa.frozen? ⟨z8, 2, none⟩ = false := f8_1.frozen 2
     have zb3 : wa.frozen? ⟨z8, 3, none⟩ = false := f8_1.frozen 3
     have zb4 : wa.frozen? ⟨z8, 4, none⟩ = false := f8_1.frozen 4
     have zb5 : wa.frozen? ⟨z8, 5, none⟩ = false := f8_1.frozen 5
     have zb6 : wa.frozen? ⟨z8, 6, none⟩ = false := f8_1.frozen 6
     have zb7 : wa.frozen? ⟨z8, 7, none⟩ = false := f8_1.frozen 7
     have zb8 : wa.frozen? ⟨z8, 8, none⟩ = false := f8_1.frozen 8
     simp only [frameOf, fill, setSlot, sg, Nat.reduceBEq, if_true, if_false, Nat.reduceAdd, Nat.reduceEqDiff, HSL.out] at hK ⊢
     have E43 := Lib.hid e43
     have E8 := Lib.hid e8
     simp only [e43, e8] at hK ⊢
     clear e43 e8
     go_wp2_with (fail)
     refine hK undef _ ⟨(by have h := hba; exact zg), ?_⟩ ⟨_, _, _, rfl, Holds.set9 _ _ _ _ _ _ _ _ _ f8_1, own_set9 f43_0 f8_1 (by decide), f8_0⟩
     intro jq xq hd hne hv
     match jq, hd, hne, hv with
     | 0, _, _, hv => exact hv
     | 1, _, _, hv => obtain ⟨a1_, d1_, e1, h1⟩ := hv; exact ⟨a1_, d1_, e1, own_set9 h1 f8_1 (by decide)⟩
     | 2, _, _, hv => exact hv
     | 3, _, _, hv => obtain ⟨a1_, d1_, e1, h1⟩ := hv; exact ⟨a1_, d1_, e1, own_set9 h1 f8_1 (by decide)⟩
     | 4, _, _, hv => exact hv
     | 5, _, _, hv => obtain ⟨a1_, e1, h1⟩ := hv; exact ⟨a1_, e1, h1.set9 f8_1 (by decide) (by decide)⟩
     | 6, _, _, hv => obtain ⟨b_, e1, h0, h1⟩ := hv; exact ⟨b_, e1, h0, h1.set9_ne f8_1 (by decide)⟩
     | 7, hd, _, _ => exact absurd hd (by decide)
     | 8, _, _, hv => obtain ⟨b_, a1_, d1_, e1, h0, h1, h2⟩ := hv; exact ⟨b_, a1_, d1_, e1, h0.set9_ne f8_1 (by decide), own_set9 h1 f8_1 (by decide), h2⟩
     | 9, _, hne, _ => exact absurd rfl hne
     | 10, _, _, hv => obtain ⟨a1_, e1, h1⟩ := hv; exact ⟨a1_, e1, h1.set9 f8_1 (by decide) (by decide)⟩
     | _ + 11, _, _, _ => trivial
    ·intro xq wa hba hx K hK0
     have hK := fun v w' hb => hK0 v w' (.inl hb)
     obtain ⟨A345, e45, f45_0⟩ := hx 5 (by rfl) (by rfl)
     clear hx hKc hK0
     simp only [frameOf, fill, setSlot, sg, Nat.reduceBEq, if_true, if_false, Nat.reduceAdd, Nat.reduceEqDiff, HSL.out] at hK ⊢
     simp only [e45] at hK ⊢
     clear e45
     go_wp2_with (fail)
     exact hK _ _ (Below.refl _ _) ⟨_, rfl, f45_0⟩
   ·intro xq wa hba hx
    have e40 : xq 40 = .agg #[.int .i64 b.cool, .int .i64 b.gangs, .int .i64 b.r0, .int .i64 b.r1, .int .i64 b.r2, .int .i64 b.r3, .int .i64 b.r4, .int .i64 b.r5, .slice A bs.length c] := hx 0 (by decide)
    obtain ⟨A141, c141, e41, f41_0⟩ := hx 1 (by decide)
    have e42 : xq 42 = .agg #[.int .i64 b.cool, .int .i64 b.gangs, .int .i64 b.r0, .int .i64 b.r1, .int .i64 b.r2, .int .i64 b.r3, .int .i64 b.r4, .int .i64 b.r5, .slice A bs.length c] := hx 2 (by decide)
    obtain ⟨A243, c243, e43, f43_0⟩ := hx 3 (by decide)
    have e44 : xq 44 = .slice P p.length q := hx 4 (by decide)
    obtain ⟨A345, e45, f45_0⟩ := hx 5 (by decide)
    obtain ⟨zn8, A1n8, c1n8, fn8_0, fn8_1, fn8_2, fn8_3⟩ := hx 8 (by decide)
    obtain ⟨zn9, A2n9, c2n9, fn9_0, fn9_1, fn9_2, fn9_3⟩ := hx 9 (by decide)
    obtain ⟨A39, e9, f9_0⟩ := hx 10 (by decide)
    clear hx
    simp only [frameOf, fill, setSlot, sg, Nat.reduceBEq, if_true, if_false, Nat.reduceAdd, Nat.reduceEqDiff, HSL.out]
    simp only [e40, e41, e42, e43, e44, e45, fn8_0, fn9_0, e9]
    clear e40 e41 e42 e43 e44 e45 fn8_0 fn9_0 e9
    refine hKc _ _ ?_
    have HSa := Lib.hid hba
    have HBa := Lib.hid (HBv.out.trans (hba.mono hsv))
    have hsa := HBa.out.size
    have hsta := hba.size
    have Hoa := Lib.hid fn8_1
    have Hxa := Lib.hid fn9_1
    have HUa := Lib.hid (OwnBins.at_ fn8_2).1
    have HUN := Lib.hid (OwnBins.at_ fn8_2).2
    have HMa := Lib.hid (OwnBins.at_ fn9_2).1
    have HVa := Lib.hid f9_0.at_
    clear fn8_1 fn9_1 fn8_2 fn9_2 f9_0
    have Hba := Lib.hid (Hbv.out.up hba)
    have HAa := Lib.hid (HAv.out.up hba)
    have HQa := Lib.hid (HQv.out.up hba)
    clear hba
    clear kb0 kb1 kb2 kb3 kb4 kb5 kb6 kb7 kb8 lt_b
    have kx0 : wa.cell? ⟨zn9, 0, none⟩ = some (.int .i64 b.cool) := Hxa.out.cell 0
    have kx1 : wa.cell? ⟨zn9, 1, none⟩ = some (.int .i64 b.gangs) := Hxa.out.cell 1
    have kx2 : wa.cell? ⟨zn9, 2, none⟩ = some (.int .i64 b.r0) := Hxa.out.cell 2
    have kx3 : wa.cell? ⟨zn9, 3, none⟩ = some (.int .i64 b.r1) := Hxa.out.cell 3
    have kx4 : wa.cell? ⟨zn9, 4, none⟩ = some (.int .i64 b.r2) := Hxa.out.cell 4
    have kx5 : wa.cell? ⟨zn9, 5, none⟩ = some (.int .i64 b.r3) := Hxa.out.cell 5
    have kx6 : wa.cell? ⟨zn9, 6, none⟩ = some (.int .i64 b.r4) := Hxa.out.cell 6
    have kx7 : wa.cell? ⟨zn9, 7, none⟩ = some (.int .i64 b.r5) := Hxa.out.cell 7
    have kx8 : wa.cell? ⟨zn9, 8, none⟩ = some (.slice A2n9 bs.length c2n9) := Hxa.out.cell 8
    have lt_x : zn9 < wa.heap.size := Hxa.out.lt
    obtain ⟨E, hE⟩ : ∃ z, barnErr b bs = z := ⟨_, rfl⟩
    have HEQ := Lib.hid hE
    clear hE
    by_cases hE0 : E = 0
    ·subst hE0
     have HG := Lib.hid HEQ.out
     go_wp2_with fail
     refine (refCheck_any b A2n9 c2n9 bs _ (HMa.out.up zg) h8').mono ?_
     rw [HEQ.out]
     rintro e we ⟨rfl, hbe⟩
     have Hbe := Lib.hid (Holds.up (by have h := Hba.out; exact zp1 : Holds _ (w.heap.size) 25 #[.int .i64 b.cool, .int .i64 b.gangs, .int .i64 b.r0, .int .i64 b.r1, .int .i64 b.r2, .int .i64 b.r3, .int .i64 b.r4, .int .i64 b.r5, .slice A bs.length c]) hbe)
     have Hoe := Lib.hid (Holds.up (by have h := Hoa.out; exact zp1 : Holds _ (zn8) 25 #[.int .i64 b.cool, .int .i64 b.gangs, .int .i64 b.r0, .int .i64 b.r1, .int .i64 b.r2, .int .i64 b.r3, .int .i64 b.r4, .int .i64 b.r5, .slice A1n8 bs.length c1n8]) hbe)
     have Hxe := Lib.hid (Holds.up (by have h := Hxa.out; exact zp1 : Holds _ (zn9) 33 #[.int .i64 b.cool, .int .i64 b.gangs, .int .i64 b.r0, .int .i64 b.r1, .int .i64 b.r2, .int .i64 b.r3, .int .i64 b.r4, .int .i64 b.r5, .slice A2n9 bs.length c2n9]) hbe)
     have HSe : Hid (Below wa.heap.size wa we) := Lib.hid (Below.trans zg (hbe.mono (by first | exact Nat.le_refl _ | omega | (simp; done) | (simp; omega))))
     have HBe : Hid (Below w.heap.size w we) := Lib.hid (HBa.out.trans (HSe.out.mono hsa))
     have hse := HBe.out.size
     have hste := HSe.out.size
     have HAe := Lib.hid (HAa.out.up HSe.out)
     have HQe := Lib.hid (HQa.out.up HSe.out)
     have HUe := Lib.hid (HUa.out.up HSe.out)
     have HMe := Lib.hid (HMa.out.up HSe.out)
     have HVe := Lib.hid (HVa.out.up HSe.out)
     clear hbe
     clear kx0 kx1 kx2 kx3 kx4 kx5 kx6 kx7 kx8 lt_x
     have kx0 : we.cell? ⟨zn9, 0, none⟩ = some (.int .i64 b.cool) := Hxe.out.cell 0
     have kx1 : we.cell? ⟨zn9, 1, none⟩ = some (.int .i64 b.gangs) := Hxe.out.cell 1
     have kx2 : we.cell? ⟨zn9, 2, none⟩ = some (.int .i64 b.r0) := Hxe.out.cell 2
     have kx3 : we.cell? ⟨zn9, 3, none⟩ = some (.int .i64 b.r1) := Hxe.out.cell 3
     have kx4 : we.cell? ⟨zn9, 4, none⟩ = some (.int .i64 b.r2) := Hxe.out.cell 4
     have kx5 : we.cell? ⟨zn9, 5, none⟩ = some (.int .i64 b.r3) := Hxe.out.cell 5
     have kx6 : we.cell? ⟨zn9, 6, none⟩ = some (.int .i64 b.r4) := Hxe.out.cell 6
     have kx7 : we.cell? ⟨zn9, 7, none⟩ = some (.int .i64 b.r5) := Hxe.out.cell 7
     have kx8 : we.cell? ⟨zn9, 8, none⟩ = some (.slice A2n9 bs.length c2n9) := Hxe.out.cell 8
     have lt_x : zn9 < we.heap.size := Hxe.out.lt
     obtain ⟨D, hD⟩ : ∃ z, planErr bs.length b.gangs p = z := ⟨_, rfl⟩
     have HDQ := Lib.hid hD
     clear hD
     by_cases hD0 : D = 0
     ·subst hD0
      have HCE : Hid (checkErr b bs p = 0) := Lib.hid (by unfold checkErr; rw [if_neg (by simp [HG.out]), HDQ.out])
      go_wp2_with fail
      refine (Planned_any b A2n9 c2n9 bs.length h8' P q p _ (HQe.out.up zg) (by omega) HLL.out).mono ?_
      rw [HDQ.out]
      rintro e wd ⟨rfl, hbd⟩
      have Hbd := Lib.hid (Holds.up (by have h := Hbe.out; exact zp1 : Holds _ (w.heap.size) 25 #[.int .i64 b.cool, .int .i64 b.gangs, .int .i64 b.r0, .int .i64 b.r1, .int .i64 b.r2, .int .i64 b.r3, .int .i64 b.r4, .int .i64 b.r5, .slice A bs.length c]) hbd)
      have Hod := Lib.hid (Holds.up (by have h := Hoe.out; exact zp1 : Holds _ (zn8) 25 #[.int .i64 b.cool, .int .i64 b.gangs, .int .i64 b.r0, .int .i64 b.r1, .int .i64 b.r2, .int .i64 b.r3, .int .i64 b.r4, .int .i64 b.r5, .slice A1n8 bs.length c1n8]) hbd)
      have Hxd := Lib.hid (Holds.up (by have h := Hxe.out; exact zp1 : Holds _ (zn9) 33 #[.int .i64 b.cool, .int .i64 b.gangs, .int .i64 b.r0, .int .i64 b.r1, .int .i64 b.r2, .int .i64 b.r3, .int .i64 b.r4, .int .i64 b.r5, .slice A2n9 bs.length c2n9]) hbd)
      have HSd : Hid (Below we.heap.size we wd) := Lib.hid (Below.trans zg (hbd.mono (by first | exact Nat.le_refl _ | omega | (simp; done) | (simp; omega))))
      have HBd : Hid (Below w.heap.size w wd) := Lib.hid (HBe.out.trans (HSd.out.mono hse))
      have hsd := HBd.out.size
      have hstd := HSd.out.size
      have HAd := Lib.hid (HAe.out.up HSd.out)
      have HQd := Lib.hid (HQe.out.up HSd.out)
      have HUd := Lib.hid (HUe.out.up HSd.out)
      have HMd := Lib.hid (HMe.out.up HSd.out)
      have HVd := Lib.hid (HVe.out.up HSd.out)
      clear hbd
      clear kx0 kx1 kx2 kx3 kx4 kx5 kx6 kx7 kx8 lt_x
      go_upto_block 0 with fail
      obtain ⟨T, hT⟩ : ∃ z, warmErr bs.length p bin = z := ⟨_, rfl⟩
      obtain ⟨L, hL⟩ : ∃ z, warmOf b bs p bin = z := ⟨_, rfl⟩
      have HT := Lib.hid hT
      have HL := Lib.hid hL
      clear hT hL
      go_cut [11, 14, 19, 20, 21] from 58 (fun s11 s14 s19 s20 s21 wz => ∃ G g, s11 = .int .i64 T ∧ s14 = .slice G L.length g ∧ OwnSp wz (wd.heap.size + 1) s14 L ∧ Holds wz (wd.heap.size) 25 #[.int .i64 0, .int .i64 0, .int .i64 0, .int .i64 0, .int .i64 0, .int .i64 0, .int .i64 0, .int .i64 0, .slice none 0 0] ∧ Below wd.heap.size wd wz)
      case first =>
       by_cases h20 : 20 < p.length
       ·have h20' : (20 : Int) < p.length := by omega
        have hW2 : warmErr bs.length p bin = 2 := by unfold warmErr; rw [if_pos h20]
        have HLE : Hid (warmOf b bs p bin = []) := Lib.hid (by unfold warmOf; rw [hW2]; rfl)
        have HWE := Lib.hid hW2
        clear hW2
        go_wp2_with fail
        go_meet
        case rel => exact ⟨none, 0, by rw [← HT.out, HWE.out], by rw [← HL.out, HLE.out]; rfl, by rw [← HL.out, HLE.out]; exact OwnSp.nil _ _, Holds.new wd 25 #[.int .i64 0, .int .i64 0, .int .i64 0, .int .i64 0, .int .i64 0, .int .i64 0, .int .i64 0, .int .i64 0, .slice none 0 0], ((Below.refl wd.heap.size wd).alloc (Nat.le_refl _) _)⟩
       ·have h20' : ¬ (20 : Int) < p.length := by omega
        cases hk : within bin 0 ((bs.length : Int) - 1) with
        | false =>
         have hW1 : warmErr bs.length p bin = 1 := by unfold warmErr; rw [if_neg h20, hk]; rfl
         have HLE : Hid (warmOf b bs p bin = []) := Lib.hid (by unfold warmOf; rw [hW1]; rfl)
         have HWE := Lib.hid hW1
         clear hW1
         have k8b : (wd.alloc (.cells #[.int .i64 0, .int .i64 0, .int .i64 0, .int .i64 0, .int .i64 0, .int .i64 0, .int .i64 0, .int .i64 0, .slice none 0 0] 25)).cell? ⟨w.heap.size, 8, none⟩ = some (.slice A bs.length c) := (Hbd.out.alloc _).cell 8
         have hlb := Hbd.out.lt
         by_cases hb0 : 0 ≤ bin
         ·have hb2 : ¬ bin < (bs.length : Int) := by simp only [within, Bool.and_eq_false_iff, decide_eq_false_iff_not] at hk; omega
          go_wp2_with fail
          go_meet
          case rel => exact ⟨none, 0, by rw [← HT.out, HWE.out], by rw [← HL.out, HLE.out]; rfl, by rw [← HL.out, HLE.out]; exact OwnSp.nil _ _, Holds.new wd 25 #[.int .i64 0, .int .i64 0, .int .i64 0, .int .i64 0, .int .i64 0, .int .i64 0, .int .i64 0, .int .i64 0, .slice none 0 0], ((Below.refl wd.heap.size wd).alloc (Nat.le_refl _) _)⟩
         ·go_wp2_with fail
          go_meet
          case rel => exact ⟨none, 0, by rw [← HT.out, HWE.out], by rw [← HL.out, HLE.out]; rfl, by rw [← HL.out, HLE.out]; exact OwnSp.nil _ _, Holds.new wd 25 #[.int .i64 0, .int .i64 0, .int .i64 0, .int .i64 0, .int .i64 0, .int .i64 0, .int .i64 0, .int .i64 0, .slice none 0 0], ((Below.refl wd.heap.size wd).alloc (Nat.le_refl _) _)⟩
        | true =>
         obtain ⟨k, x, rfl, hx⟩ := bin_of hk
         have HX := Lib.hid hx
         have hkl : k < bs.length := (List.getElem?_eq_some_iff.1 hx).1
         have hk1 : (0 : Int) ≤ (k : Int) := by omega
         have hk2 : (k : Int) < (bs.length : Int) := by omega
         have hW0 : warmErr bs.length p (k : Int) = 0 := by unfold warmErr; rw [if_neg h20, hk]; rfl
         have HLE : Hid (warmOf b bs p (k : Int) = warmPairs b p k x) := Lib.hid (by unfold warmOf; rw [hW0, if_pos rfl, Int.toNat_natCast, hx])
         have HWE := Lib.hid hW0
         clear hk hx hW0
         obtain ⟨wf, hwf⟩ : ∃ z, z = wd.alloc (.cells #[.int .i64 0, .int .i64 0, .int .i64 0, .int .i64 0, .int .i64 0, .int .i64 0, .int .i64 0, .int .i64 0, .slice none 0 0] 25) := ⟨_, rfl⟩
         rw [← hwf]
         have HSf : Hid (Below wd.heap.size wd wf) := Lib.hid (by rw [hwf]; exact ((Below.refl wd.heap.size wd).alloc (Nat.le_refl _) _))
         have Hnf : Hid (Holds wf (wd.heap.size) 25 #[.int .i64 0, .int .i64 0, .int .i64 0, .int .i64 0, .int .i64 0, .int .i64 0, .int .i64 0, .int .i64 0, .slice none 0 0]) := Lib.hid (by rw [hwf]; exact Holds.new wd 25 #[.int .i64 0, .int .i64 0, .int .i64 0, .int .i64 0, .int .i64 0, .int .i64 0, .int .i64 0, .int .i64 0, .slice none 0 0])
         have hsf : wf.heap.size = wd.heap.size + 1 := by rw [hwf]; simp
         clear hwf
         have Hbf := Lib.hid (Hbd.out.up HSf.out)
         have Hxf := Lib.hid (Hxd.out.up HSf.out)
         have HAf := Lib.hid (HAd.out.up HSf.out)
         have HMf := Lib.hid (HMd.out.up HSf.out)
         have HQf := Lib.hid (HQd.out.up HSf.out)
         obtain ⟨E0, oo, eA, hcell⟩ := HAf.out (by omega)
         subst eA
         obtain ⟨l, m, hlo, hhi, hl6, hm6, -⟩ := good_bin HG.out HX.out
         have ke0 : wf.cell? ⟨E0, oo + k * 4, none⟩ = some (.int .i64 x.warm) := hcell k x HX.out 0 _ rfl
         have ke1 : wf.cell? ⟨E0, oo + k * 4 + 1, none⟩ = some (.int .i64 x.mark) := hcell k x HX.out 1 _ rfl
         have ke2 : wf.cell? ⟨E0, oo + k * 4 + 2, none⟩ = some (.int .i64 x.lo) := hcell k x HX.out 2 _ rfl
         have ke3 : wf.cell? ⟨E0, oo + k * 4 + 3, none⟩ = some (.int .i64 x.hi) := hcell k x HX.out 3 _ rfl
         rw [hlo] at ke2
         rw [hhi] at ke3
         have lE := World.block_lt_of_cell? wf _ ke0
         have HLO2 := Lib.hid hlo
         have HHI := Lib.hid hhi
         clear hlo hhi
         clear hcell
         have k8f : wf.cell? ⟨w.heap.size, 8, none⟩ = some (.slice (some ⟨E0, oo, none⟩) bs.length c) := Hbf.out.cell 8
         have lbf := Hbf.out.lt
         go_wp2_with fail
         rename_i Kc hKc
         have HSL := Lib.hid (show slotsOf [some 58, some 59, some 60, some 61, some 62, some 63, some 64, some 65, some 66, some 67, some 68, some 19] = [58, 59, 60, 61, 62, 63, 64, 65, 66, 67, 68, 19] from rfl)
         refine wp_region_partsG (by kernel_rfl) [some 58, some 59, some 60, some 61, some 62, some 63, some 64, some 65, some 66, some 67, some 68, some 19] (fun jq xq w' => match jq with
          | 0 => xq 58 = .agg #[.int .i64 b.cool, .int .i64 b.gangs, .int .i64 b.r0, .int .i64 b.r1, .int .i64 b.r2, .int .i64 b.r3, .int .i64 b.r4, .int .i64 b.r5, .slice A2n9 bs.length c2n9]
          | 1 => xq 59 = .slice P p.length q
          | 2 => xq 60 = .int .i64 (k : Int)
          | 3 => xq 61 = .pointer (some ⟨w.heap.size, 8, none⟩)
          | 4 => xq 62 = .slice (some ⟨E0, oo, none⟩) bs.length c
          | 5 => xq 63 = .int .i64 (k : Int)
          | 6 => xq 64 = .pointer (some ⟨E0, oo + k * 4, none⟩)
          | 7 => xq 65 = .pointer (some ⟨E0, oo + k * 4 + 2, none⟩)
          | 8 => xq 66 = .pointer (some ⟨E0, oo + k * 4 + 3, none⟩)
          | 9 => xq 67 = .int .i64 (m : Int)
          | 10 => ∃ H h, xq 68 = .slice H p.length h ∧ OwnInts w' wf.heap.size (.slice H p.length h) (warmList b.cool (b.rise (m : Int)) (k : Int) x.warm p)
          | 11 => ∃ H h, xq 19 = .slice H p.length h ∧ OwnInts w' wf.heap.size (.slice H p.length h) (warmList b.cool (b.rise (m : Int)) (k : Int) x.warm p)
          | _ => True) [[58], [59], [60], [61], [62], [63], [64], [65], [66], [67], [68], [19]] [] (fun w' => Below wf.heap.size wf w') (by kernel_rfl)  ?_ ?_ (fun w' w'' hb g => g.trans (hb.mono g.size)) (Below.refl _ _) ?_ ?_ ?_
         ·intro jq xq xq' wqq h hv
          match jq, h, hv with
          | 0, h, hv => show xq' 58 = .agg #[.int .i64 b.cool, .int .i64 b.gangs, .int .i64 b.r0, .int .i64 b.r1, .int .i64 b.r2, .int .i64 b.r3, .int .i64 b.r4, .int .i64 b.r5, .slice A2n9 bs.length c2n9]; rw [← h 58 (by decide)]; exact hv
          | 1, h, hv => show xq' 59 = .slice P p.length q; rw [← h 59 (by decide)]; exact hv
          | 2, h, hv => show xq' 60 = .int .i64 (k : Int); rw [← h 60 (by decide)]; exact hv
          | 3, h, hv => show xq' 61 = .pointer (some ⟨w.heap.size, 8, none⟩); rw [← h 61 (by decide)]; exact hv
          | 4, h, hv => show xq' 62 = .slice (some ⟨E0, oo, none⟩) bs.length c; rw [← h 62 (by decide)]; exact hv
          | 5, h, hv => show xq' 63 = .int .i64 (k : Int); rw [← h 63 (by decide)]; exact hv
          | 6, h, hv => show xq' 64 = .pointer (some ⟨E0, oo + k * 4, none⟩); rw [← h 64 (by decide)]; exact hv
          | 7, h, hv => show xq' 65 = .pointer (some ⟨E0, oo + k * 4 + 2, none⟩); rw [← h 65 (by decide)]; exact hv
          | 8, h, hv => show xq' 66 = .pointer (some ⟨E0, oo + k * 4 + 3, none⟩); rw [← h 66 (by decide)]; exact hv
          | 9, h, hv => show xq' 67 = .int .i64 (m : Int); rw [← h 67 (by decide)]; exact hv
          | 10, h, hv => show ∃ H h, xq' 68 = .slice H p.length h ∧ OwnInts wqq wf.heap.size (.slice H p.length h) (warmList b.cool (b.rise (m : Int)) (k : Int) x.warm p); rw [← h 68 (by decide)]; exact hv
          | 11, h, hv => show ∃ H h, xq' 19 = .slice H p.length h ∧ OwnInts wqq wf.heap.size (.slice H p.length h) (warmList b.cool (b.rise (m : Int)) (k : Int) x.warm p); rw [← h 19 (by decide)]; exact hv
          | _ + 12, _, _ => trivial
         ·intro jq xq wqq w' hb' hv
          match jq, hv with
          | 0, hv => exact hv
          | 1, hv => exact hv
          | 2, hv => exact hv
          | 3, hv => exact hv
          | 4, hv => exact hv
          | 5, hv => exact hv
          | 6, hv => exact hv
          | 7, hv => exact hv
          | 8, hv => exact hv
          | 9, hv => exact hv
          | 10, ⟨b0, b1, h0, h1⟩ => exact ⟨b0, b1, h0, h1.up hb'⟩
          | 11, ⟨b0, b1, h0, h1⟩ => exact ⟨b0, b1, h0, h1.up hb'⟩
          | _ + 12, _ => trivial
         ·intro jq hj
          match jq, hj with
          | 0, hj => exact absurd hj (by decide)
          | 1, hj => exact absurd hj (by decide)
          | 2, hj => exact absurd hj (by decide)
          | 3, hj => exact absurd hj (by decide)
          | 4, hj => exact absurd hj (by decide)
          | 5, hj => exact absurd hj (by decide)
          | 6, hj => exact absurd hj (by decide)
          | 7, hj => exact absurd hj (by decide)
          | 8, hj => exact absurd hj (by decide)
          | 9, hj => exact absurd hj (by decide)
          | 10, hj => exact absurd hj (by decide)
          | 11, hj => exact absurd hj (by decide)
          | _ + 12, _ => trivial
         ·refine ⟨?_, ?_, ?_, ?_, ?_, ?_, ?_, ?_, ?_, ?_, ?_, ?_, trivial⟩
          ·intro xq wg hbg hx K hK0
           have hK := fun v w' hb => hK0 v w' (.inl hb)
           clear hx hKc hK0
           have kx0' : wg.cell? ⟨zn9, 0, none⟩ = some (.int .i64 b.cool) := (Hxf.out.up hbg).cell 0
           have kx1' : wg.cell? ⟨zn9, 1, none⟩ = some (.int .i64 b.gangs) := (Hxf.out.up hbg).cell 1
           have kx2' : wg.cell? ⟨zn9, 2, none⟩ = some (.int .i64 b.r0) := (Hxf.out.up hbg).cell 2
           have kx3' : wg.cell? ⟨zn9, 3, none⟩ = some (.int .i64 b.r1) := (Hxf.out.up hbg).cell 3
           have kx4' : wg.cell? ⟨zn9, 4, none⟩ = some (.int .i64 b.r2) := (Hxf.out.up hbg).cell 4
           have kx5' : wg.cell? ⟨zn9, 5, none⟩ = some (.int .i64 b.r3) := (Hxf.out.up hbg).cell 5
           have kx6' : wg.cell? ⟨zn9, 6, none⟩ = some (.int .i64 b.r4) := (Hxf.out.up hbg).cell 6
           have kx7' : wg.cell? ⟨zn9, 7, none⟩ = some (.int .i64 b.r5) := (Hxf.out.up hbg).cell 7
           have kx8' : wg.cell? ⟨zn9, 8, none⟩ = some (.slice A2n9 bs.length c2n9) := (Hxf.out.up hbg).cell 8
           simp only [frameOf, fill, setSlot, sg, Nat.reduceBEq, if_true, if_false, Nat.reduceAdd, Nat.reduceEqDiff, HSL.out] at hK ⊢
           go_wp2_with (fail)
           exact hK _ _ (Below.refl _ _) rfl
          ·intro xq wg hbg hx K hK0
           have hK := fun v w' hb => hK0 v w' (.inl hb)
           clear hx hKc hK0
           simp only [frameOf, fill, setSlot, sg, Nat.reduceBEq, if_true, if_false, Nat.reduceAdd, Nat.reduceEqDiff, HSL.out] at hK ⊢
           go_wp2_with (fail)
           exact hK _ _ (Below.refl _ _) rfl
          ·intro xq wg hbg hx K hK0
           have hK := fun v w' hb => hK0 v w' (.inl hb)
           clear hx hKc hK0
           simp only [frameOf, fill, setSlot, sg, Nat.reduceBEq, if_true, if_false, Nat.reduceAdd, Nat.reduceEqDiff, HSL.out] at hK ⊢
           go_wp2_with (fail)
           exact hK _ _ (Below.refl _ _) rfl
          ·intro xq wg hbg hx K hK0
           have hK := fun v w' hb => hK0 v w' (.inl hb)
           clear hx hKc hK0
           simp only [frameOf, fill, setSlot, sg, Nat.reduceBEq, if_true, if_false, Nat.reduceAdd, Nat.reduceEqDiff, HSL.out] at hK ⊢
           go_wp2_with (fail)
           exact hK _ _ (Below.refl _ _) rfl
          ·intro xq wg hbg hx K hK0
           have hK := fun v w' hb => hK0 v w' (.inl hb)
           have e61 : xq 61 = .pointer (some ⟨w.heap.size, 8, none⟩) := hx 3 (by rfl) (by rfl)
           clear hx hKc hK0
           have q4 : wg.cell? ⟨w.heap.size, 8, none⟩ = some (.slice (some ⟨E0, oo, none⟩) bs.length c) := (Hbf.out.up hbg).cell 8
           simp only [frameOf, fill, setSlot, sg, Nat.reduceBEq, if_true, if_false, Nat.reduceAdd, Nat.reduceEqDiff, HSL.out] at hK ⊢
           simp only [e61] at hK ⊢
           clear e61
           go_wp2_with (fail)
           exact hK _ _ (Below.refl _ _) rfl
          ·intro xq wg hbg hx K hK0
           have hK := fun v w' hb => hK0 v w' (.inl hb)
           clear hx hKc hK0
           simp only [frameOf, fill, setSlot, sg, Nat.reduceBEq, if_true, if_false, Nat.reduceAdd, Nat.reduceEqDiff, HSL.out] at hK ⊢
           go_wp2_with (fail)
           exact hK _ _ (Below.refl _ _) rfl
          ·intro xq wg hbg hx K hK0
           have hK := fun v w' hb => hK0 v w' (.inl hb)
           have e62 : xq 62 = .slice (some ⟨E0, oo, none⟩) bs.length c := hx 4 (by rfl) (by rfl)
           have e63 : xq 63 = .int .i64 (k : Int) := hx 5 (by rfl) (by rfl)
           clear hx hKc hK0
           simp only [frameOf, fill, setSlot, sg, Nat.reduceBEq, if_true, if_false, Nat.reduceAdd, Nat.reduceEqDiff, HSL.out] at hK ⊢
           simp only [e62, e63] at hK ⊢
           clear e62 e63
           go_wp2_with (fail)
           exact hK _ _ (Below.refl _ _) rfl
          ·intro xq wg hbg hx K hK0
           have hK := fun v w' hb => hK0 v w' (.inl hb)
           have e64 : xq 64 = .pointer (some ⟨E0, oo + k * 4, none⟩) := hx 6 (by rfl) (by rfl)
           clear hx hKc hK0
           simp only [frameOf, fill, setSlot, sg, Nat.reduceBEq, if_true, if_false, Nat.reduceAdd, Nat.reduceEqDiff, HSL.out] at hK ⊢
           simp only [e64] at hK ⊢
           clear e64
           go_wp2_with (fail)
           exact hK _ _ (Below.refl _ _) rfl
          ·intro xq wg hbg hx K hK0
           have hK := fun v w' hb => hK0 v w' (.inl hb)
           have e65 : xq 65 = .pointer (some ⟨E0, oo + k * 4 + 2, none⟩) := hx 7 (by rfl) (by rfl)
           clear hx hKc hK0
           simp only [frameOf, fill, setSlot, sg, Nat.reduceBEq, if_true, if_false, Nat.reduceAdd, Nat.reduceEqDiff, HSL.out] at hK ⊢
           simp only [e65] at hK ⊢
           clear e65
           go_wp2_with (fail)
           exact hK _ _ (Below.refl _ _) rfl
          ·intro xq wg hbg hx K hK0
           have hK := fun v w' hb => hK0 v w' (.inl hb)
           have e66 : xq 66 = .pointer (some ⟨E0, oo + k * 4 + 3, none⟩) := hx 8 (by rfl) (by rfl)
           clear hx hKc hK0
           have q9 : wg.cell? ⟨E0, oo + k * 4 + 3, none⟩ = some (.int .i64 (m : Int)) := up_cell hbg ke3
           simp only [frameOf, fill, setSlot, sg, Nat.reduceBEq, if_true, if_false, Nat.reduceAdd, Nat.reduceEqDiff, HSL.out] at hK ⊢
           simp only [e66] at hK ⊢
           clear e66
           go_wp2_with (fail)
           exact hK _ _ (Below.refl _ _) rfl
          ·intro xq wg hbg hx K hK0
           have hK := fun v w' hb => hK0 v w' (.inl hb)
           have e58 : xq 58 = .agg #[.int .i64 b.cool, .int .i64 b.gangs, .int .i64 b.r0, .int .i64 b.r1, .int .i64 b.r2, .int .i64 b.r3, .int .i64 b.r4, .int .i64 b.r5, .slice A2n9 bs.length c2n9] := hx 0 (by rfl) (by rfl)
           have e59 : xq 59 = .slice P p.length q := hx 1 (by rfl) (by rfl)
           have e60 : xq 60 = .int .i64 (k : Int) := hx 2 (by rfl) (by rfl)
           have e67 : xq 67 = .int .i64 (m : Int) := hx 9 (by rfl) (by rfl)
           clear hx hKc hK0
           simp only [frameOf, fill, setSlot, sg, Nat.reduceBEq, if_true, if_false, Nat.reduceAdd, Nat.reduceEqDiff, HSL.out] at hK ⊢
           simp only [e58, e59, e60, e67] at hK ⊢
           clear e58 e59 e60 e67
           go_wp2_with (go_at_call 25; refine (refWarmth_any b A2n9 c2n9 bs P q p _ (HMf.out.up hbg) h8' (HQf.out.up hbg) (by omega) HLL.out HG.out k x HX.out m hm6).mono ?_; rintro e w2_ ⟨G1, d1, rfl, hown, hb_⟩)
           exact hK _ _ hb_ ⟨_, _, rfl, rowq_mono hown hbg.size⟩
          ·intro xq wg hbg hx K hK0
           have hK := fun v w' hb => hK0 v w' (.inl hb)
           obtain ⟨H68, h68, e68, f68_0⟩ := hx 10 (by rfl) (by rfl)
           clear hx hKc hK0
           simp only [frameOf, fill, setSlot, sg, Nat.reduceBEq, if_true, if_false, Nat.reduceAdd, Nat.reduceEqDiff, HSL.out] at hK ⊢
           simp only [e68] at hK ⊢
           clear e68
           go_wp2_with (fail)
           exact hK _ _ (Below.refl _ _) ⟨_, _, rfl, f68_0⟩
         ·intro xq wg hbg hx
          have e58 : xq 58 = .agg #[.int .i64 b.cool, .int .i64 b.gangs, .int .i64 b.r0, .int .i64 b.r1, .int .i64 b.r2, .int .i64 b.r3, .int .i64 b.r4, .int .i64 b.r5, .slice A2n9 bs.length c2n9] := hx 0 (by decide)
          have e59 : xq 59 = .slice P p.length q := hx 1 (by decide)
          have e60 : xq 60 = .int .i64 (k : Int) := hx 2 (by decide)
          have e61 : xq 61 = .pointer (some ⟨w.heap.size, 8, none⟩) := hx 3 (by decide)
          have e62 : xq 62 = .slice (some ⟨E0, oo, none⟩) bs.length c := hx 4 (by decide)
          have e63 : xq 63 = .int .i64 (k : Int) := hx 5 (by decide)
          have e64 : xq 64 = .pointer (some ⟨E0, oo + k * 4, none⟩) := hx 6 (by decide)
          have e65 : xq 65 = .pointer (some ⟨E0, oo + k * 4 + 2, none⟩) := hx 7 (by decide)
          have e66 : xq 66 = .pointer (some ⟨E0, oo + k * 4 + 3, none⟩) := hx 8 (by decide)
          have e67 : xq 67 = .int .i64 (m : Int) := hx 9 (by decide)
          obtain ⟨H68, h68, e68, f68_0⟩ := hx 10 (by decide)
          obtain ⟨H19, h19, e19, f19_0⟩ := hx 11 (by decide)
          clear hx
          simp only [frameOf, fill, setSlot, sg, Nat.reduceBEq, if_true, if_false, Nat.reduceAdd, Nat.reduceEqDiff, HSL.out]
          simp only [e58, e59, e60, e61, e62, e63, e64, e65, e66, e67, e68, e19]
          clear e58 e59 e60 e61 e62 e63 e64 e65 e66 e67 e68 e19
          refine hKc _ _ ?_
          have HSg := Lib.hid hbg
          have HHg := Lib.hid f19_0
          have ke0g := up_cell hbg ke0
          have ke2g := up_cell hbg ke2
          have ke3g := up_cell hbg ke3
          have lEg := World.block_lt_of_cell? wg _ ke0g
          have hsg := hbg.size
          have Hbg := Lib.hid (Hbf.out.up hbg)
          have Hxg := Lib.hid (Hxf.out.up hbg)
          have HAg := Lib.hid (HAf.out.up hbg)
          have HMg := Lib.hid (HMf.out.up hbg)
          have HQg := Lib.hid (HQf.out.up hbg)
          have Hng := Lib.hid (Hnf.out.up hbg)
          clear hbg f19_0 ke0 ke1 ke2 ke3 lE k8f
          have ke0 := ke0g
          have ke2 := ke2g
          have ke3 := ke3g
          clear ke0g ke2g ke3g
          go_wp2_with fail
          rename_i Kc2 hKc
          have HSL := Lib.hid (show slotsOf [some 69, some 70, some 71, some 72, some 73, some 74, some 75, some 76, some 77, some 78, some 79, some 80, some 81] = [69, 70, 71, 72, 73, 74, 75, 76, 77, 78, 79, 80, 81] from rfl)
          refine wp_region_partsG (by kernel_rfl) [some 69, some 70, some 71, some 72, some 73, some 74, some 75, some 76, some 77, some 78, some 79, some 80, some 81] (fun jq xq w' => match jq with
           | 0 => xq 69 = .agg #[.int .i64 b.cool, .int .i64 b.gangs, .int .i64 b.r0, .int .i64 b.r1, .int .i64 b.r2, .int .i64 b.r3, .int .i64 b.r4, .int .i64 b.r5, .slice A2n9 bs.length c2n9]
           | 1 => xq 70 = .slice P p.length q
           | 2 => xq 71 = .int .i64 (k : Int)
           | 3 => xq 72 = .pointer (some ⟨w.heap.size, 8, none⟩)
           | 4 => xq 73 = .slice (some ⟨E0, oo, none⟩) bs.length c
           | 5 => xq 74 = .int .i64 (k : Int)
           | 6 => xq 75 = .pointer (some ⟨E0, oo + k * 4, none⟩)
           | 7 => xq 76 = .pointer (some ⟨E0, oo + k * 4 + 2, none⟩)
           | 8 => xq 77 = .pointer (some ⟨E0, oo + k * 4 + 2, none⟩)
           | 9 => xq 78 = .int .i64 (l : Int)
           | 10 => ∃ H h, xq 79 = .slice H p.length h ∧ OwnInts w' wg.heap.size (.slice H p.length h) (warmList b.cool (b.rise (l : Int)) (k : Int) x.warm p)
           | 11 => xq 80 = .int .i64 (p.length : Int)
           | 12 => xq 81 = .int .i64 0
           | _ => True) [[69], [70], [71], [72], [73], [74], [75], [76], [77], [78], [79], [80], [81]] [] (fun w' => Below wg.heap.size wg w') (by kernel_rfl)  ?_ ?_ (fun w' w'' hb g => g.trans (hb.mono g.size)) (Below.refl _ _) ?_ ?_ ?_
          ·intro jq xq xq' wqq h hv
           match jq, h, hv with
           | 0, h, hv => show xq' 69 = .agg #[.int .i64 b.cool, .int .i64 b.gangs, .int .i64 b.r0, .int .i64 b.r1, .int .i64 b.r2, .int .i64 b.r3, .int .i64 b.r4, .int .i64 b.r5, .slice A2n9 bs.length c2n9]; rw [← h 69 (by decide)]; exact hv
           | 1, h, hv => show xq' 70 = .slice P p.length q; rw [← h 70 (by decide)]; exact hv
           | 2, h, hv => show xq' 71 = .int .i64 (k : Int); rw [← h 71 (by decide)]; exact hv
           | 3, h, hv => show xq' 72 = .pointer (some ⟨w.heap.size, 8, none⟩); rw [← h 72 (by decide)]; exact hv
           | 4, h, hv => show xq' 73 = .slice (some ⟨E0, oo, none⟩) bs.length c; rw [← h 73 (by decide)]; exact hv
           | 5, h, hv => show xq' 74 = .int .i64 (k : Int); rw [← h 74 (by decide)]; exact hv
           | 6, h, hv => show xq' 75 = .pointer (some ⟨E0, oo + k * 4, none⟩); rw [← h 75 (by decide)]; exact hv
           | 7, h, hv => show xq' 76 = .pointer (some ⟨E0, oo + k * 4 + 2, none⟩); rw [← h 76 (by decide)]; exact hv
           | 8, h, hv => show xq' 77 = .pointer (some ⟨E0, oo + k * 4 + 2, none⟩); rw [← h 77 (by decide)]; exact hv
           | 9, h, hv => show xq' 78 = .int .i64 (l : Int); rw [← h 78 (by decide)]; exact hv
           | 10, h, hv => show ∃ H h, xq' 79 = .slice H p.length h ∧ OwnInts wqq wg.heap.size (.slice H p.length h) (warmList b.cool (b.rise (l : Int)) (k : Int) x.warm p); rw [← h 79 (by decide)]; exact hv
           | 11, h, hv => show xq' 80 = .int .i64 (p.length : Int); rw [← h 80 (by decide)]; exact hv
           | 12, h, hv => show xq' 81 = .int .i64 0; rw [← h 81 (by decide)]; exact hv
           | _ + 13, _, _ => trivial
          ·intro jq xq wqq w' hb' hv
           match jq, hv with
           | 0, hv => exact hv
           | 1, hv => exact hv
           | 2, hv => exact hv
           | 3, hv => exact hv
           | 4, hv => exact hv
           | 5, hv => exact hv
           | 6, hv => exact hv
           | 7, hv => exact hv
           | 8, hv => exact hv
           | 9, hv => exact hv
           | 10, ⟨b0, b1, h0, h1⟩ => exact ⟨b0, b1, h0, h1.up hb'⟩
           | 11, hv => exact hv
           | 12, hv => exact hv
           | _ + 13, _ => trivial
          ·intro jq hj
           match jq, hj with
           | 0, hj => exact absurd hj (by decide)
           | 1, hj => exact absurd hj (by decide)
           | 2, hj => exact absurd hj (by decide)
           | 3, hj => exact absurd hj (by decide)
           | 4, hj => exact absurd hj (by decide)
           | 5, hj => exact absurd hj (by decide)
           | 6, hj => exact absurd hj (by decide)
           | 7, hj => exact absurd hj (by decide)
           | 8, hj => exact absurd hj (by decide)
           | 9, hj => exact absurd hj (by decide)
           | 10, hj => exact absurd hj (by decide)
           | 11, hj => exact absurd hj (by decide)
           | 12, hj => exact absurd hj (by decide)
           | _ + 13, _ => trivial
          ·refine ⟨?_, ?_, ?_, ?_, ?_, ?_, ?_, ?_, ?_, ?_, ?_, ?_, ?_, trivial⟩
           ·intro xq wh hbh hx K hK0
            have hK := fun v w' hb => hK0 v w' (.inl hb)
            clear hx hKc hK0
            have kx0' : wh.cell? ⟨zn9, 0, none⟩ = some (.int .i64 b.cool) := (Hxg.out.up hbh).cell 0
            have kx1' : wh.cell? ⟨zn9, 1, none⟩ = some (.int .i64 b.gangs) := (Hxg.out.up hbh).cell 1
            have kx2' : wh.cell? ⟨zn9, 2, none⟩ = some (.int .i64 b.r0) := (Hxg.out.up hbh).cell 2
            have kx3' : wh.cell? ⟨zn9, 3, none⟩ = some (.int .i64 b.r1) := (Hxg.out.up hbh).cell 3
            have kx4' : wh.cell? ⟨zn9, 4, none⟩ = some (.int .i64 b.r2) := (Hxg.out.up hbh).cell 4
            have kx5' : wh.cell? ⟨zn9, 5, none⟩ = some (.int .i64 b.r3) := (Hxg.out.up hbh).cell 5
            have kx6' : wh.cell? ⟨zn9, 6, none⟩ = some (.int .i64 b.r4) := (Hxg.out.up hbh).cell 6
            have kx7' : wh.cell? ⟨zn9, 7, none⟩ = some (.int .i64 b.r5) := (Hxg.out.up hbh).cell 7
            have kx8' : wh.cell? ⟨zn9, 8, none⟩ = some (.slice A2n9 bs.length c2n9) := (Hxg.out.up hbh).cell 8
            simp only [frameOf, fill, setSlot, sg, Nat.reduceBEq, if_true, if_false, Nat.reduceAdd, Nat.reduceEqDiff, HSL.out] at hK ⊢
            go_wp2_with (fail)
            exact hK _ _ (Below.refl _ _) rfl
           ·intro xq wh hbh hx K hK0
            have hK := fun v w' hb => hK0 v w' (.inl hb)
            clear hx hKc hK0
            simp only [frameOf, fill, setSlot, sg, Nat.reduceBEq, if_true, if_false, Nat.reduceAdd, Nat.reduceEqDiff, HSL.out] at hK ⊢
            go_wp2_with (fail)
            exact hK _ _ (Below.refl _ _) rfl
           ·intro xq wh hbh hx K hK0
            have hK := fun v w' hb => hK0 v w' (.inl hb)
            clear hx hKc hK0
            simp only [frameOf, fill, setSlot, sg, Nat.reduceBEq, if_true, if_false, Nat.reduceAdd, Nat.reduceEqDiff, HSL.out] at hK ⊢
            go_wp2_with (fail)
            exact hK _ _ (Below.refl _ _) rfl
           ·intro xq wh hbh hx K hK0
            have hK := fun v w' hb => hK0 v w' (.inl hb)
            clear hx hKc hK0
            simp only [frameOf, fill, setSlot, sg, Nat.reduceBEq, if_true, if_false, Nat.reduceAdd, Nat.reduceEqDiff, HSL.out] at hK ⊢
            go_wp2_with (fail)
            exact hK _ _ (Below.refl _ _) rfl
           ·intro xq wh hbh hx K hK0
            have hK := fun v w' hb => hK0 v w' (.inl hb)
            have e72 : xq 72 = .pointer (some ⟨w.heap.size, 8, none⟩) := hx 3 (by rfl) (by rfl)
            clear hx hKc hK0
            have q4 : wh.cell? ⟨w.heap.size, 8, none⟩ = some (.slice (some ⟨E0, oo, none⟩) bs.length c) := (Hbg.out.up hbh).cell 8
            simp only [frameOf, fill, setSlot, sg, Nat.reduceBEq, if_true, if_false, Nat.reduceAdd, Nat.reduceEqDiff, HSL.out] at hK ⊢
            simp only [e72] at hK ⊢
            clear e72
            go_wp2_with (fail)
            exact hK _ _ (Below.refl _ _) rfl
           ·intro xq wh hbh hx K hK0
            have hK := fun v w' hb => hK0 v w' (.inl hb)
            clear hx hKc hK0
            simp only [frameOf, fill, setSlot, sg, Nat.reduceBEq, if_true, if_false, Nat.reduceAdd, Nat.reduceEqDiff, HSL.out] at hK ⊢
            go_wp2_with (fail)
            exact hK _ _ (Below.refl _ _) rfl
           ·intro xq wh hbh hx K hK0
            have hK := fun v w' hb => hK0 v w' (.inl hb)
            have e73 : xq 73 = .slice (some ⟨E0, oo, none⟩) bs.length c := hx 4 (by rfl) (by rfl)
            have e74 : xq 74 = .int .i64 (k : Int) := hx 5 (by rfl) (by rfl)
            clear hx hKc hK0
            simp only [frameOf, fill, setSlot, sg, Nat.reduceBEq, if_true, if_false, Nat.reduceAdd, Nat.reduceEqDiff, HSL.out] at hK ⊢
            simp only [e73, e74] at hK ⊢
            clear e73 e74
            go_wp2_with (fail)
            exact hK _ _ (Below.refl _ _) rfl
           ·intro xq wh hbh hx K hK0
            have hK := fun v w' hb => hK0 v w' (.inl hb)
            have e75 : xq 75 = .pointer (some ⟨E0, oo + k * 4, none⟩) := hx 6 (by rfl) (by rfl)
            clear hx hKc hK0
            simp only [frameOf, fill, setSlot, sg, Nat.reduceBEq, if_true, if_false, Nat.reduceAdd, Nat.reduceEqDiff, HSL.out] at hK ⊢
            simp only [e75] at hK ⊢
            clear e75
            go_wp2_with (fail)
            exact hK _ _ (Below.refl _ _) rfl
           ·intro xq wh hbh hx K hK0
            have hK := fun v w' hb => hK0 v w' (.inl hb)
            have e76 : xq 76 = .pointer (some ⟨E0, oo + k * 4 + 2, none⟩) := hx 7 (by rfl) (by rfl)
            clear hx hKc hK0
            simp only [frameOf, fill, setSlot, sg, Nat.reduceBEq, if_true, if_false, Nat.reduceAdd, Nat.reduceEqDiff, HSL.out] at hK ⊢
            simp only [e76] at hK ⊢
            clear e76
            go_wp2_with (fail)
            exact hK _ _ (Below.refl _ _) rfl
           ·intro xq wh hbh hx K hK0
            have hK := fun v w' hb => hK0 v w' (.inl hb)
            have e77 : xq 77 = .pointer (some ⟨E0, oo + k * 4 + 2, none⟩) := hx 8 (by rfl) (by rfl)
            clear hx hKc hK0
            have q9 : wh.cell? ⟨E0, oo + k * 4 + 2, none⟩ = some (.int .i64 (l : Int)) := up_cell hbh ke2
            simp only [frameOf, fill, setSlot, sg, Nat.reduceBEq, if_true, if_false, Nat.reduceAdd, Nat.reduceEqDiff, HSL.out] at hK ⊢
            simp only [e77] at hK ⊢
            clear e77
            go_wp2_with (fail)
            exact hK _ _ (Below.refl _ _) rfl
           ·intro xq wh hbh hx K hK0
            have hK := fun v w' hb => hK0 v w' (.inl hb)
            have e69 : xq 69 = .agg #[.int .i64 b.cool, .int .i64 b.gangs, .int .i64 b.r0, .int .i64 b.r1, .int .i64 b.r2, .int .i64 b.r3, .int .i64 b.r4, .int .i64 b.r5, .slice A2n9 bs.length c2n9] := hx 0 (by rfl) (by rfl)
            have e70 : xq 70 = .slice P p.length q := hx 1 (by rfl) (by rfl)
            have e71 : xq 71 = .int .i64 (k : Int) := hx 2 (by rfl) (by rfl)
            have e78 : xq 78 = .int .i64 (l : Int) := hx 9 (by rfl) (by rfl)
            clear hx hKc hK0
            simp only [frameOf, fill, setSlot, sg, Nat.reduceBEq, if_true, if_false, Nat.reduceAdd, Nat.reduceEqDiff, HSL.out] at hK ⊢
            simp only [e69, e70, e71, e78] at hK ⊢
            clear e69 e70 e71 e78
            go_wp2_with (go_at_call 25; refine (refWarmth_any b A2n9 c2n9 bs P q p _ (HMg.out.up hbh) h8' (HQg.out.up hbh) (by omega) HLL.out HG.out k x HX.out l hl6).mono ?_; rintro e w2_ ⟨G1, d1, rfl, hown, hb_⟩)
            exact hK _ _ hb_ ⟨_, _, rfl, rowq_mono hown hbh.size⟩
           ·intro xq wh hbh hx K hK0
            have hK := fun v w' hb => hK0 v w' (.inl hb)
            obtain ⟨H79, h79, e79, f79_0⟩ := hx 10 (by rfl) (by rfl)
            clear hx hKc hK0
            simp only [frameOf, fill, setSlot, sg, Nat.reduceBEq, if_true, if_false, Nat.reduceAdd, Nat.reduceEqDiff, HSL.out] at hK ⊢
            simp only [e79] at hK ⊢
            clear e79
            go_wp2_with (fail)
            exact hK _ _ (Below.refl _ _) rfl
           ·intro xq wh hbh hx K hK0
            have hK := fun v w' hb => hK0 v w' (.inl hb)
            clear hx hKc hK0
            simp only [frameOf, fill, setSlot, sg, Nat.reduceBEq, if_true, if_false, Nat.reduceAdd, Nat.reduceEqDiff, HSL.out] at hK ⊢
            go_wp2_with (fail)
            exact hK _ _ (Below.refl _ _) rfl
          ·intro xq wh hbh hx
           have e69 : xq 69 = .agg #[.int .i64 b.cool, .int .i64 b.gangs, .int .i64 b.r0, .int .i64 b.r1, .int .i64 b.r2, .int .i64 b.r3, .int .i64 b.r4, .int .i64 b.r5, .slice A2n9 bs.length c2n9] := hx 0 (by decide)
           have e70 : xq 70 = .slice P p.length q := hx 1 (by decide)
           have e71 : xq 71 = .int .i64 (k : Int) := hx 2 (by decide)
           have e72 : xq 72 = .pointer (some ⟨w.heap.size, 8, none⟩) := hx 3 (by decide)
           have e73 : xq 73 = .slice (some ⟨E0, oo, none⟩) bs.length c := hx 4 (by decide)
           have e74 : xq 74 = .int .i64 (k : Int) := hx 5 (by decide)
           have e75 : xq 75 = .pointer (some ⟨E0, oo + k * 4, none⟩) := hx 6 (by decide)
           have e76 : xq 76 = .pointer (some ⟨E0, oo + k * 4 + 2, none⟩) := hx 7 (by decide)
           have e77 : xq 77 = .pointer (some ⟨E0, oo + k * 4 + 2, none⟩) := hx 8 (by decide)
           have e78 : xq 78 = .int .i64 (l : Int) := hx 9 (by decide)
           obtain ⟨H79, h79, e79, f79_0⟩ := hx 10 (by decide)
           have e80 : xq 80 = .int .i64 (p.length : Int) := hx 11 (by decide)
           have e81 : xq 81 = .int .i64 0 := hx 12 (by decide)
           clear hx
           simp only [frameOf, fill, setSlot, sg, Nat.reduceBEq, if_true, if_false, Nat.reduceAdd, Nat.reduceEqDiff, HSL.out]
           simp only [e69, e70, e71, e72, e73, e74, e75, e76, e77, e78, e79, e80, e81]
           clear e69 e70 e71 e72 e73 e74 e75 e76 e77 e78 e79 e80 e81
           refine hKc _ _ ?_
           have HSh := Lib.hid hbh
           have HLh := Lib.hid f79_0
           have HHh := Lib.hid (HHg.out.up hbh)
           have hsh := hbh.size
           have Hnh := Lib.hid (Hng.out.up hbh)
           have HBd2 : Hid (Below wd.heap.size wd wh) := Lib.hid ((HSf.out.trans (HSg.out.mono (by omega))).trans (hbh.mono (by omega)))
           clear hbh f79_0 ke0 ke2 ke3 lEg
           go_wp2_with fail
           obtain ⟨ti, hti, hti0, hti1, hti2⟩ := info_parts info_span
           have HPR : Hid (L = warmPairs b p k x) := Lib.hid (by rw [← HL.out, HLE.out])
           go_loopw [14, 81] (fun v14 v81 wr => ∃ (d : Nat) (G : Option Addr) (g : Nat), v81 = .int .i64 (d : Int) ∧ d ≤ p.length ∧ v14 = .slice G d g ∧ Hid (OwnSp wr (wd.heap.size + 1) (.slice G d g) (L.take d)) ∧ Hid (Holds wr (wd.heap.size) 25 #[.int .i64 0, .int .i64 0, .int .i64 0, .int .i64 0, .int .i64 0, .int .i64 0, .int .i64 0, .int .i64 0, .slice none 0 0]) ∧ Hid (Below wd.heap.size wd wr) ∧ Hid (OwnInts wr wf.heap.size (.slice H19 p.length h19) (warmList b.cool (b.rise (m : Int)) (k : Int) x.warm p)) ∧ Hid (OwnInts wr wg.heap.size (.slice H79 p.length h79) (warmList b.cool (b.rise (l : Int)) (k : Int) x.warm p))) (fun _ v81 _ => p.length - (intOf v81).toNat)
           case atStart => exact ⟨0, none, 0, rfl, Nat.zero_le _, rfl, Lib.hid (by rw [List.take_zero]; exact OwnSp.nil _ _), Hnh, HBd2, HHh, HLh⟩
           case round =>
            obtain ⟨d, G, g, rfl, hd, rfl, HOr, Hnr, HBr, HIH, HIL⟩ := hrel
            by_cases hdl : d < p.length
            ·have hdl' : (d : Int) < p.length := by omega
             obtain ⟨Bh, oh, eh, hch⟩ := (ints_of HIH.out) (by rw [warm_len]; omega)
             subst eh
             obtain ⟨Bl, ol, el, hcl⟩ := (ints_of HIL.out) (by rw [warm_len]; omega)
             subst el
             obtain ⟨hv, hhv⟩ : ∃ z, (warmList b.cool (b.rise (m : Int)) (k : Int) x.warm p)[d]? = some z := ⟨_, List.getElem?_eq_getElem (by rw [warm_len]; exact hdl)⟩
             obtain ⟨lv, hlv⟩ : ∃ z, (warmList b.cool (b.rise (l : Int)) (k : Int) x.warm p)[d]? = some z := ⟨_, List.getElem?_eq_getElem (by rw [warm_len]; exact hdl)⟩
             have kh := hch d hv hhv
             have kl := hcl d lv hlv
             have llh := World.block_lt_of_cell? wr _ kh
             have lll := World.block_lt_of_cell? wr _ kl
             have HTK : Hid (L.take (d + 1) = L.take d ++ [(lv, hv)]) := Lib.hid (by
             have e : L[d]? = some (lv, hv) := by rw [HPR.out]; unfold warmPairs; rw [HLO2.out, HHI.out]; exact List.getElem?_zip_eq_some.2 ⟨hlv, hhv⟩
             rw [List.take_add_one, e]; rfl)
             have hsr := HBr.out.size
             have hld : (L.take d).length = d := by rw [List.length_take, HPR.out, pairs_len]; omega
             have HLD := Lib.hid hld
             clear hch hcl hhv hlv hld
             go_wp2_with (at_builtin; (refine wpList_append_own _ rfl _ _ 54 rfl (wd.heap.size + 1) 27 ti _ 2 16 und_spans0 hti hti0 hti1 hti2 rfl (by decide) _ _ _ rfl (OwnSp.up HOr.out zg) ⟨_, 0, none⟩ 1 1 (spCells (lv, hv)) rfl rfl (holds_news (Holds.new' _ _ (by simp))) (sp_one (lv, hv)) (by rw [HLD.out]; unfold maxLen; omega) (by rw [HLD.out]; omega) (by simp; omega) ?_; intro v5 w5 hown5 hgrow5 _; have ho5 := OwnSp.snoc hown5; obtain ⟨G5, g5, rfl, -, -, -⟩ := rowq_val ho5; rw [List.length_append, HLD.out] at ho5 ⊢; rw [← HTK.out] at ho5; have HO5 := Lib.hid ho5; have HG5 := Lib.hid hgrow5; clear hown5 hgrow5 ho5))
             go_roundw
             case rel =>
              have hblk : ∀ r, _ = some r → _ := OwnSp.block (OwnSp.up HOr.out (zg : Below wr.heap.size wr (wr.alloc (.cells #[.int .i64 lv, .int .i64 hv] 27))))
              have hal : Below wr.heap.size wr (wr.alloc (.cells #[.int .i64 lv, .int .i64 hv] 27)) := by (repeat' (first | (with_reducible first | exact Below.refl _ _ | assumption | refine Below.alloc ?_ ?_ _ | refine Below.drew ?_ | refine Below.setCell ?_ ?_ _ | exact Nat.le_refl _) | omega | (simp only [World.size_alloc, World.size_setCell, World.size_drew]; omega) | (simp; omega) | (simp; done)))
              exact ⟨d + 1, G5, g5, by go_num, hdl, rfl, HO5, Lib.hid (Holds.row (Hnr.out.alloc _) HG5.out (fun k hk => by have := (hblk k hk).1; omega)), Lib.hid ((HBr.out.trans (hal.mono HBr.out.size)).grown HG5.out (Nat.le_trans HBr.out.size hal.size) (fun k hk => by have := (hblk k hk).1; omega)), Lib.hid (OwnInts.turn (rowq_up HIH.out hal) HG5.out (fun r e => (hblk r e).2)), Lib.hid (OwnInts.turn (rowq_up HIL.out hal) HG5.out (fun r e => (hblk r e).2))⟩
             case measure => first | (simp [intOf]; done) | (simp [intOf]; omega)
            ·have hdl' : ¬ (d : Int) < p.length := by omega
             have HDE : Hid (d = p.length) := Lib.hid (by omega)
             go_wp2_with fail
             go_meet
             case rel => exact ⟨G, g, by rw [← HT.out, HWE.out], by rw [HPR.out, pairs_len, HDE.out], by have h := HOr.out; rw [HDE.out, List.take_of_length_le (by rw [HPR.out, pairs_len]; exact Nat.le_refl _)] at h; rw [HDE.out]; exact h, Hnr.out, HBr.out⟩
      case rest =>
       obtain ⟨G4, g4, h11, h14, hsp, hnw, hbw⟩ := hcut
       subst h11
       subst h14
       have HSc := Lib.hid hbw
       have HBc := Lib.hid (HBd.out.trans (hbw.mono hsd))
       have hsc := HBc.out.size
       have hstc := hbw.size
       have HYc := Lib.hid hsp
       have Hnc := Lib.hid hnw
       have Hbc := Lib.hid (Hbd.out.up hbw)
       have Hoc := Lib.hid (Hod.out.up hbw)
       have Hxc := Lib.hid (Hxd.out.up hbw)
       have HAc := Lib.hid (HAd.out.up hbw)
       have HQc := Lib.hid (HQd.out.up hbw)
       have HUc := Lib.hid (HUd.out.up hbw)
       have HMc := Lib.hid (HMd.out.up hbw)
       have HVc := Lib.hid (HVd.out.up hbw)
       clear hbw hsp hnw
       have kx0 : wc.cell? ⟨zn9, 0, none⟩ = some (.int .i64 b.cool) := Hxc.out.cell 0
       have kx1 : wc.cell? ⟨zn9, 1, none⟩ = some (.int .i64 b.gangs) := Hxc.out.cell 1
       have kx2 : wc.cell? ⟨zn9, 2, none⟩ = some (.int .i64 b.r0) := Hxc.out.cell 2
       have kx3 : wc.cell? ⟨zn9, 3, none⟩ = some (.int .i64 b.r1) := Hxc.out.cell 3
       have kx4 : wc.cell? ⟨zn9, 4, none⟩ = some (.int .i64 b.r2) := Hxc.out.cell 4
       have kx5 : wc.cell? ⟨zn9, 5, none⟩ = some (.int .i64 b.r3) := Hxc.out.cell 5
       have kx6 : wc.cell? ⟨zn9, 6, none⟩ = some (.int .i64 b.r4) := Hxc.out.cell 6
       have kx7 : wc.cell? ⟨zn9, 7, none⟩ = some (.int .i64 b.r5) := Hxc.out.cell 7
       have kx8 : wc.cell? ⟨zn9, 8, none⟩ = some (.slice A2n9 bs.length c2n9) := Hxc.out.cell 8
       have lt_x : zn9 < wc.heap.size := Hxc.out.lt
       go_wp2_with fail
       refine (refBurns_any b A2n9 c2n9 bs P q p _ (HMc.out.up zg) h8' (HQc.out.up zg) (by omega) HLL.out HG.out).mono ?_
       rintro e wf ⟨day, bin0, any, rfl, hbest, hbf⟩
       have Hbf := Lib.hid (Holds.up (by have h := Hbc.out; exact zp1 : Holds _ (w.heap.size) 25 #[.int .i64 b.cool, .int .i64 b.gangs, .int .i64 b.r0, .int .i64 b.r1, .int .i64 b.r2, .int .i64 b.r3, .int .i64 b.r4, .int .i64 b.r5, .slice A bs.length c]) hbf)
       have Hof := Lib.hid (Holds.up (by have h := Hoc.out; exact zp1 : Holds _ (zn8) 25 #[.int .i64 b.cool, .int .i64 b.gangs, .int .i64 b.r0, .int .i64 b.r1, .int .i64 b.r2, .int .i64 b.r3, .int .i64 b.r4, .int .i64 b.r5, .slice A1n8 bs.length c1n8]) hbf)
       have Hxf := Lib.hid (Holds.up (by have h := Hxc.out; exact zp1 : Holds _ (zn9) 33 #[.int .i64 b.cool, .int .i64 b.gangs, .int .i64 b.r0, .int .i64 b.r1, .int .i64 b.r2, .int .i64 b.r3, .int .i64 b.r4, .int .i64 b.r5, .slice A2n9 bs.length c2n9]) hbf)
       have Hnf := Lib.hid (Holds.up (by have h := Hnc.out; exact zp1 : Holds _ (wd.heap.size) 25 #[.int .i64 0, .int .i64 0, .int .i64 0, .int .i64 0, .int .i64 0, .int .i64 0, .int .i64 0, .int .i64 0, .slice none 0 0]) hbf)
       have HSf : Hid (Below wc.heap.size wc wf) := Lib.hid (Below.trans zg (hbf.mono (by first | exact Nat.le_refl _ | omega | (simp; done) | (simp; omega))))
       have HBf : Hid (Below w.heap.size w wf) := Lib.hid (HBc.out.trans (HSf.out.mono hsc))
       have hsf := HBf.out.size
       have hstf := HSf.out.size
       have HAf := Lib.hid (HAc.out.up HSf.out)
       have HQf := Lib.hid (HQc.out.up HSf.out)
       have HUf := Lib.hid (HUc.out.up HSf.out)
       have HMf := Lib.hid (HMc.out.up HSf.out)
       have HVf := Lib.hid (HVc.out.up HSf.out)
       have HYf := Lib.hid (HYc.out.up HSf.out)
       clear hbf
       have HF : Hid (First (burnF b bs p) day bin0 any) := Lib.hid (First.of hbest (fun k m d h => burn_out h))
       clear hbest
       clear kx0 kx1 kx2 kx3 kx4 kx5 kx6 kx7 kx8 lt_x
       cases any with
       | true =>
        have ko0 : wf.cell? ⟨zn8, 0, none⟩ = some (.int .i64 b.cool) := Hof.out.cell 0
        have ko1 : wf.cell? ⟨zn8, 1, none⟩ = some (.int .i64 b.gangs) := Hof.out.cell 1
        have ko2 : wf.cell? ⟨zn8, 2, none⟩ = some (.int .i64 b.r0) := Hof.out.cell 2
        have ko3 : wf.cell? ⟨zn8, 3, none⟩ = some (.int .i64 b.r1) := Hof.out.cell 3
        have ko4 : wf.cell? ⟨zn8, 4, none⟩ = some (.int .i64 b.r2) := Hof.out.cell 4
        have ko5 : wf.cell? ⟨zn8, 5, none⟩ = some (.int .i64 b.r3) := Hof.out.cell 5
        have ko6 : wf.cell? ⟨zn8, 6, none⟩ = some (.int .i64 b.r4) := Hof.out.cell 6
        have ko7 : wf.cell? ⟨zn8, 7, none⟩ = some (.int .i64 b.r5) := Hof.out.cell 7
        have ko8 : wf.cell? ⟨zn8, 8, none⟩ = some (.slice A1n8 bs.length c1n8) := Hof.out.cell 8
        have lt_o : zn8 < wf.heap.size := Hof.out.lt
        as_aux_lemma =>
         go_wp2_with fail
         refine (Warmth_any b A1n8 c1n8 bs h8' A39 p.length p (by omega) HLL.out bin HCE.out _ (HUf.out.up zg) (HVf.out.up zg)).mono ?_
         rw [HT.out, HL.out]
         rintro e wt1 ⟨G5, g5, rfl, hsp5, hbt1⟩
         have Hbt1 := Lib.hid (Holds.up (by have h := Hbf.out; exact zp1 : Holds _ (w.heap.size) 25 #[.int .i64 b.cool, .int .i64 b.gangs, .int .i64 b.r0, .int .i64 b.r1, .int .i64 b.r2, .int .i64 b.r3, .int .i64 b.r4, .int .i64 b.r5, .slice A bs.length c]) hbt1)
         have Hot1 := Lib.hid (Holds.up (by have h := Hof.out; exact zp1 : Holds _ (zn8) 25 #[.int .i64 b.cool, .int .i64 b.gangs, .int .i64 b.r0, .int .i64 b.r1, .int .i64 b.r2, .int .i64 b.r3, .int .i64 b.r4, .int .i64 b.r5, .slice A1n8 bs.length c1n8]) hbt1)
         have Hnt1 := Lib.hid (Holds.up (by have h := Hnf.out; exact zp1 : Holds _ (wd.heap.size) 25 #[.int .i64 0, .int .i64 0, .int .i64 0, .int .i64 0, .int .i64 0, .int .i64 0, .int .i64 0, .int .i64 0, .slice none 0 0]) hbt1)
         have HSt1 : Hid (Below wf.heap.size wf wt1) := Lib.hid (Below.trans zg (hbt1.mono (by first | exact Nat.le_refl _ | omega | (simp; done) | (simp; omega))))
         have HBt1 : Hid (Below w.heap.size w wt1) := Lib.hid (HBf.out.trans (HSt1.out.mono hsf))
         have hst1 := HBt1.out.size
         have hstt1 := HSt1.out.size
         have HAt1 := Lib.hid (HAf.out.up HSt1.out)
         have HQt1 := Lib.hid (HQf.out.up HSt1.out)
         have HUt1 := Lib.hid (HUf.out.up HSt1.out)
         have HVt1 := Lib.hid (HVf.out.up HSt1.out)
         have HYt1 := Lib.hid (HYf.out.up HSt1.out)
         clear hbt1
         have HZt1 := Lib.hid hsp5
         clear hsp5
         clear ko0 ko1 ko2 ko3 ko4 ko5 ko6 ko7 ko8 lt_o
         have ko0 : wt1.cell? ⟨zn8, 0, none⟩ = some (.int .i64 b.cool) := Hot1.out.cell 0
         have ko1 : wt1.cell? ⟨zn8, 1, none⟩ = some (.int .i64 b.gangs) := Hot1.out.cell 1
         have ko2 : wt1.cell? ⟨zn8, 2, none⟩ = some (.int .i64 b.r0) := Hot1.out.cell 2
         have ko3 : wt1.cell? ⟨zn8, 3, none⟩ = some (.int .i64 b.r1) := Hot1.out.cell 3
         have ko4 : wt1.cell? ⟨zn8, 4, none⟩ = some (.int .i64 b.r2) := Hot1.out.cell 4
         have ko5 : wt1.cell? ⟨zn8, 5, none⟩ = some (.int .i64 b.r3) := Hot1.out.cell 5
         have ko6 : wt1.cell? ⟨zn8, 6, none⟩ = some (.int .i64 b.r4) := Hot1.out.cell 6
         have ko7 : wt1.cell? ⟨zn8, 7, none⟩ = some (.int .i64 b.r5) := Hot1.out.cell 7
         have ko8 : wt1.cell? ⟨zn8, 8, none⟩ = some (.slice A1n8 bs.length c1n8) := Hot1.out.cell 8
         have lt_o : zn8 < wt1.heap.size := Hot1.out.lt
         go_wp2_with fail
         refine (Keeps_ok b A1n8 c1n8 bs h8' A39 p.length p (by omega) HLL.out HCE.out day bin0 true HF.out _ (HUt1.out.up zg) (HVt1.out.up zg)).mono ?_
         rintro e wt2 ⟨rfl, hbt2⟩
         have Hbt2 := Lib.hid (Holds.up (by have h := Hbt1.out; exact zp1 : Holds _ (w.heap.size) 25 #[.int .i64 b.cool, .int .i64 b.gangs, .int .i64 b.r0, .int .i64 b.r1, .int .i64 b.r2, .int .i64 b.r3, .int .i64 b.r4, .int .i64 b.r5, .slice A bs.length c]) hbt2)
         have Hot2 := Lib.hid (Holds.up (by have h := Hot1.out; exact zp1 : Holds _ (zn8) 25 #[.int .i64 b.cool, .int .i64 b.gangs, .int .i64 b.r0, .int .i64 b.r1, .int .i64 b.r2, .int .i64 b.r3, .int .i64 b.r4, .int .i64 b.r5, .slice A1n8 bs.length c1n8]) hbt2)
         have Hnt2 := Lib.hid (Holds.up (by have h := Hnt1.out; exact zp1 : Holds _ (wd.heap.size) 25 #[.int .i64 0, .int .i64 0, .int .i64 0, .int .i64 0, .int .i64 0, .int .i64 0, .int .i64 0, .int .i64 0, .slice none 0 0]) hbt2)
         have HSt2 : Hid (Below wt1.heap.size wt1 wt2) := Lib.hid (Below.trans zg (hbt2.mono (by first | exact Nat.le_refl _ | omega | (simp; done) | (simp; omega))))
         have HBt2 : Hid (Below w.heap.size w wt2) := Lib.hid (HBt1.out.trans (HSt2.out.mono hst1))
         have hst2 := HBt2.out.size
         have hstt2 := HSt2.out.size
         have HAt2 := Lib.hid (HAt1.out.up HSt2.out)
         have HQt2 := Lib.hid (HQt1.out.up HSt2.out)
         have HUt2 := Lib.hid (HUt1.out.up HSt2.out)
         have HVt2 := Lib.hid (HVt1.out.up HSt2.out)
         have HYt2 := Lib.hid (HYt1.out.up HSt2.out)
         have HZt2 := Lib.hid (HZt1.out.up HSt2.out)
         clear hbt2
         clear ko0 ko1 ko2 ko3 ko4 ko5 ko6 ko7 ko8 lt_o
         have ko0 : wt2.cell? ⟨zn8, 0, none⟩ = some (.int .i64 b.cool) := Hot2.out.cell 0
         have ko1 : wt2.cell? ⟨zn8, 1, none⟩ = some (.int .i64 b.gangs) := Hot2.out.cell 1
         have ko2 : wt2.cell? ⟨zn8, 2, none⟩ = some (.int .i64 b.r0) := Hot2.out.cell 2
         have ko3 : wt2.cell? ⟨zn8, 3, none⟩ = some (.int .i64 b.r1) := Hot2.out.cell 3
         have ko4 : wt2.cell? ⟨zn8, 4, none⟩ = some (.int .i64 b.r2) := Hot2.out.cell 4
         have ko5 : wt2.cell? ⟨zn8, 5, none⟩ = some (.int .i64 b.r3) := Hot2.out.cell 5
         have ko6 : wt2.cell? ⟨zn8, 6, none⟩ = some (.int .i64 b.r4) := Hot2.out.cell 6
         have ko7 : wt2.cell? ⟨zn8, 7, none⟩ = some (.int .i64 b.r5) := Hot2.out.cell 7
         have ko8 : wt2.cell? ⟨zn8, 8, none⟩ = some (.slice A1n8 bs.length c1n8) := Hot2.out.cell 8
         have lt_o : zn8 < wt2.heap.size := Hot2.out.lt
         go_wp2_with fail
         refine (Burns_ok b A1n8 c1n8 bs h8' A39 p.length p (by omega) HLL.out HCE.out day bin0 true HF.out _ (HUt2.out.up zg) (HVt2.out.up zg)).mono ?_
         rw [if_pos rfl]
         rintro e wt3 ⟨rfl, hbt3⟩
         have Hbt3 := Lib.hid (Holds.up (by have h := Hbt2.out; exact zp1 : Holds _ (w.heap.size) 25 #[.int .i64 b.cool, .int .i64 b.gangs, .int .i64 b.r0, .int .i64 b.r1, .int .i64 b.r2, .int .i64 b.r3, .int .i64 b.r4, .int .i64 b.r5, .slice A bs.length c]) hbt3)
         have Hot3 := Lib.hid (Holds.up (by have h := Hot2.out; exact zp1 : Holds _ (zn8) 25 #[.int .i64 b.cool, .int .i64 b.gangs, .int .i64 b.r0, .int .i64 b.r1, .int .i64 b.r2, .int .i64 b.r3, .int .i64 b.r4, .int .i64 b.r5, .slice A1n8 bs.length c1n8]) hbt3)
         have Hnt3 := Lib.hid (Holds.up (by have h := Hnt2.out; exact zp1 : Holds _ (wd.heap.size) 25 #[.int .i64 0, .int .i64 0, .int .i64 0, .int .i64 0, .int .i64 0, .int .i64 0, .int .i64 0, .int .i64 0, .slice none 0 0]) hbt3)
         have HSt3 : Hid (Below wt2.heap.size wt2 wt3) := Lib.hid (Below.trans zg (hbt3.mono (by first | exact Nat.le_refl _ | omega | (simp; done) | (simp; omega))))
         have HBt3 : Hid (Below w.heap.size w wt3) := Lib.hid (HBt2.out.trans (HSt3.out.mono hst2))
         have hst3 := HBt3.out.size
         have hstt3 := HSt3.out.size
         have HAt3 := Lib.hid (HAt2.out.up HSt3.out)
         have HQt3 := Lib.hid (HQt2.out.up HSt3.out)
         have HUt3 := Lib.hid (HUt2.out.up HSt3.out)
         have HVt3 := Lib.hid (HVt2.out.up HSt3.out)
         have HYt3 := Lib.hid (HYt2.out.up HSt3.out)
         have HZt3 := Lib.hid (HZt2.out.up HSt3.out)
         clear hbt3
         clear ko0 ko1 ko2 ko3 ko4 ko5 ko6 ko7 ko8 lt_o
         have ko0 : wt3.cell? ⟨zn8, 0, none⟩ = some (.int .i64 b.cool) := Hot3.out.cell 0
         have ko1 : wt3.cell? ⟨zn8, 1, none⟩ = some (.int .i64 b.gangs) := Hot3.out.cell 1
         have ko2 : wt3.cell? ⟨zn8, 2, none⟩ = some (.int .i64 b.r0) := Hot3.out.cell 2
         have ko3 : wt3.cell? ⟨zn8, 3, none⟩ = some (.int .i64 b.r1) := Hot3.out.cell 3
         have ko4 : wt3.cell? ⟨zn8, 4, none⟩ = some (.int .i64 b.r2) := Hot3.out.cell 4
         have ko5 : wt3.cell? ⟨zn8, 5, none⟩ = some (.int .i64 b.r3) := Hot3.out.cell 5
         have ko6 : wt3.cell? ⟨zn8, 6, none⟩ = some (.int .i64 b.r4) := Hot3.out.cell 6
         have ko7 : wt3.cell? ⟨zn8, 7, none⟩ = some (.int .i64 b.r5) := Hot3.out.cell 7
         have ko8 : wt3.cell? ⟨zn8, 8, none⟩ = some (.slice A1n8 bs.length c1n8) := Hot3.out.cell 8
         have lt_o : zn8 < wt3.heap.size := Hot3.out.lt
         go_wp2_with fail
         refine (After_burns b A1n8 c1n8 bs h8' A39 p.length p (by omega) HLL.out HCE.out day bin0 HF.out _ (HUt3.out.up zg) (HVt3.out.up zg)).mono ?_
         rintro e wt4 ⟨rfl, hbt4⟩
         have Hbt4 := Lib.hid (Holds.up (by have h := Hbt3.out; exact zp1 : Holds _ (w.heap.size) 25 #[.int .i64 b.cool, .int .i64 b.gangs, .int .i64 b.r0, .int .i64 b.r1, .int .i64 b.r2, .int .i64 b.r3, .int .i64 b.r4, .int .i64 b.r5, .slice A bs.length c]) hbt4)
         have Hot4 := Lib.hid (Holds.up (by have h := Hot3.out; exact zp1 : Holds _ (zn8) 25 #[.int .i64 b.cool, .int .i64 b.gangs, .int .i64 b.r0, .int .i64 b.r1, .int .i64 b.r2, .int .i64 b.r3, .int .i64 b.r4, .int .i64 b.r5, .slice A1n8 bs.length c1n8]) hbt4)
         have Hnt4 := Lib.hid (Holds.up (by have h := Hnt3.out; exact zp1 : Holds _ (wd.heap.size) 25 #[.int .i64 0, .int .i64 0, .int .i64 0, .int .i64 0, .int .i64 0, .int .i64 0, .int .i64 0, .int .i64 0, .slice none 0 0]) hbt4)
         have HSt4 : Hid (Below wt3.heap.size wt3 wt4) := Lib.hid (Below.trans zg (hbt4.mono (by first | exact Nat.le_refl _ | omega | (simp; done) | (simp; omega))))
         have HBt4 : Hid (Below w.heap.size w wt4) := Lib.hid (HBt3.out.trans (HSt4.out.mono hst3))
         have hst4 := HBt4.out.size
         have hstt4 := HSt4.out.size
         have HAt4 := Lib.hid (HAt3.out.up HSt4.out)
         have HQt4 := Lib.hid (HQt3.out.up HSt4.out)
         have HUt4 := Lib.hid (HUt3.out.up HSt4.out)
         have HVt4 := Lib.hid (HVt3.out.up HSt4.out)
         have HYt4 := Lib.hid (HYt3.out.up HSt4.out)
         have HZt4 := Lib.hid (HZt3.out.up HSt4.out)
         clear hbt4
         clear ko0 ko1 ko2 ko3 ko4 ko5 ko6 ko7 ko8 lt_o
         go_wp2_with fail
         refine (eqSpan_same G5 G4 g5 g4 L _ (sp_at (OwnSp.up HZt4.out zg)) (sp_at (OwnSp.up HYt4.out zg)) (by rw [← HL.out]; exact Nat.le_trans (warm_of_len b bs p bin) (by omega))).mono ?_
         rintro e wt5 ⟨rfl, hbt5⟩
         have Hbt5 := Lib.hid (Holds.up (by have h := Hbt4.out; exact zp1 : Holds _ (w.heap.size) 25 #[.int .i64 b.cool, .int .i64 b.gangs, .int .i64 b.r0, .int .i64 b.r1, .int .i64 b.r2, .int .i64 b.r3, .int .i64 b.r4, .int .i64 b.r5, .slice A bs.length c]) hbt5)
         have Hot5 := Lib.hid (Holds.up (by have h := Hot4.out; exact zp1 : Holds _ (zn8) 25 #[.int .i64 b.cool, .int .i64 b.gangs, .int .i64 b.r0, .int .i64 b.r1, .int .i64 b.r2, .int .i64 b.r3, .int .i64 b.r4, .int .i64 b.r5, .slice A1n8 bs.length c1n8]) hbt5)
         have Hnt5 := Lib.hid (Holds.up (by have h := Hnt4.out; exact zp1 : Holds _ (wd.heap.size) 25 #[.int .i64 0, .int .i64 0, .int .i64 0, .int .i64 0, .int .i64 0, .int .i64 0, .int .i64 0, .int .i64 0, .slice none 0 0]) hbt5)
         have Hct5 := Lib.hid (Holds.up (zp1 : Holds _ (wt4.heap.size) 25 #[.int .i64 0, .int .i64 0, .int .i64 0, .int .i64 0, .int .i64 0, .int .i64 0, .int .i64 0, .int .i64 0, .slice none 0 0]) hbt5)
         have HSt5 : Hid (Below wt4.heap.size wt4 wt5) := Lib.hid (Below.trans zg (hbt5.mono (by first | exact Nat.le_refl _ | omega | (simp; done) | (simp; omega))))
         have HBt5 : Hid (Below w.heap.size w wt5) := Lib.hid (HBt4.out.trans (HSt5.out.mono hst4))
         have hst5 := HBt5.out.size
         have hstt5 := HSt5.out.size
         have HAt5 := Lib.hid (HAt4.out.up HSt5.out)
         have HQt5 := Lib.hid (HQt4.out.up HSt5.out)
         have HUt5 := Lib.hid (HUt4.out.up HSt5.out)
         have HVt5 := Lib.hid (HVt4.out.up HSt5.out)
         have HYt5 := Lib.hid (HYt4.out.up HSt5.out)
         have HZt5 := Lib.hid (HZt4.out.up HSt5.out)
         clear hbt5
         have kc0 : wt5.cell? ⟨wt4.heap.size, 0, none⟩ = some (.int .i64 0) := Hct5.out.cell 0
         have kc1 : wt5.cell? ⟨wt4.heap.size, 1, none⟩ = some (.int .i64 0) := Hct5.out.cell 1
         have kc2 : wt5.cell? ⟨wt4.heap.size, 2, none⟩ = some (.int .i64 0) := Hct5.out.cell 2
         have kc3 : wt5.cell? ⟨wt4.heap.size, 3, none⟩ = some (.int .i64 0) := Hct5.out.cell 3
         have kc4 : wt5.cell? ⟨wt4.heap.size, 4, none⟩ = some (.int .i64 0) := Hct5.out.cell 4
         have kc5 : wt5.cell? ⟨wt4.heap.size, 5, none⟩ = some (.int .i64 0) := Hct5.out.cell 5
         have kc6 : wt5.cell? ⟨wt4.heap.size, 6, none⟩ = some (.int .i64 0) := Hct5.out.cell 6
         have kc7 : wt5.cell? ⟨wt4.heap.size, 7, none⟩ = some (.int .i64 0) := Hct5.out.cell 7
         have kc8 : wt5.cell? ⟨wt4.heap.size, 8, none⟩ = some (.slice none 0 0) := Hct5.out.cell 8
         have lt_c : wt4.heap.size < wt5.heap.size := Hct5.out.lt
         have kn0 : wt5.cell? ⟨wd.heap.size, 0, none⟩ = some (.int .i64 0) := Hnt5.out.cell 0
         have kn1 : wt5.cell? ⟨wd.heap.size, 1, none⟩ = some (.int .i64 0) := Hnt5.out.cell 1
         have kn2 : wt5.cell? ⟨wd.heap.size, 2, none⟩ = some (.int .i64 0) := Hnt5.out.cell 2
         have kn3 : wt5.cell? ⟨wd.heap.size, 3, none⟩ = some (.int .i64 0) := Hnt5.out.cell 3
         have kn4 : wt5.cell? ⟨wd.heap.size, 4, none⟩ = some (.int .i64 0) := Hnt5.out.cell 4
         have kn5 : wt5.cell? ⟨wd.heap.size, 5, none⟩ = some (.int .i64 0) := Hnt5.out.cell 5
         have kn6 : wt5.cell? ⟨wd.heap.size, 6, none⟩ = some (.int .i64 0) := Hnt5.out.cell 6
         have kn7 : wt5.cell? ⟨wd.heap.size, 7, none⟩ = some (.int .i64 0) := Hnt5.out.cell 7
         have kn8 : wt5.cell? ⟨wd.heap.size, 8, none⟩ = some (.slice none 0 0) := Hnt5.out.cell 8
         have lt_n : wd.heap.size < wt5.heap.size := Hnt5.out.lt
         go_wp2_with fail
         refine (same_same ⟨0, 0, 0, 0, 0, 0, 0, 0⟩ none none 0 0 [] _ (RowAt.nil _ _ _ _) (RowAt.nil _ _ _ _) (by decide)).mono ?_
         rintro e wt6 ⟨rfl, hbt6⟩
         have Hbt6 := Lib.hid (Holds.up (by have h := Hbt5.out; exact zp1 : Holds _ (w.heap.size) 25 #[.int .i64 b.cool, .int .i64 b.gangs, .int .i64 b.r0, .int .i64 b.r1, .int .i64 b.r2, .int .i64 b.r3, .int .i64 b.r4, .int .i64 b.r5, .slice A bs.length c]) hbt6)
         have Hot6 := Lib.hid (Holds.up (by have h := Hot5.out; exact zp1 : Holds _ (zn8) 25 #[.int .i64 b.cool, .int .i64 b.gangs, .int .i64 b.r0, .int .i64 b.r1, .int .i64 b.r2, .int .i64 b.r3, .int .i64 b.r4, .int .i64 b.r5, .slice A1n8 bs.length c1n8]) hbt6)
         have Hnt6 := Lib.hid (Holds.up (by have h := Hnt5.out; exact zp1 : Holds _ (wd.heap.size) 25 #[.int .i64 0, .int .i64 0, .int .i64 0, .int .i64 0, .int .i64 0, .int .i64 0, .int .i64 0, .int .i64 0, .slice none 0 0]) hbt6)
         have Hct6 := Lib.hid (Holds.up (by have h := Hct5.out; exact zp1 : Holds _ (wt4.heap.size) 25 #[.int .i64 0, .int .i64 0, .int .i64 0, .int .i64 0, .int .i64 0, .int .i64 0, .int .i64 0, .int .i64 0, .slice none 0 0]) hbt6)
         have HSt6 : Hid (Below wt5.heap.size wt5 wt6) := Lib.hid (Below.trans zg (hbt6.mono (by first | exact Nat.le_refl _ | omega | (simp; done) | (simp; omega))))
         have HBt6 : Hid (Below w.heap.size w wt6) := Lib.hid (HBt5.out.trans (HSt6.out.mono hst5))
         have hst6 := HBt6.out.size
         have hstt6 := HSt6.out.size
         have HAt6 := Lib.hid (HAt5.out.up HSt6.out)
         have HQt6 := Lib.hid (HQt5.out.up HSt6.out)
         have HUt6 := Lib.hid (HUt5.out.up HSt6.out)
         have HVt6 := Lib.hid (HVt5.out.up HSt6.out)
         have HYt6 := Lib.hid (HYt5.out.up HSt6.out)
         have HZt6 := Lib.hid (HZt5.out.up HSt6.out)
         clear hbt6
         clear kn0 kn1 kn2 kn3 kn4 kn5 kn6 kn7 kn8 lt_n kc0 kc1 kc2 kc3 kc4 kc5 kc6 kc7 kc8 lt_c
         have kc0 : wt6.cell? ⟨wt4.heap.size, 0, none⟩ = some (.int .i64 0) := Hct6.out.cell 0
         have kc1 : wt6.cell? ⟨wt4.heap.size, 1, none⟩ = some (.int .i64 0) := Hct6.out.cell 1
         have kc2 : wt6.cell? ⟨wt4.heap.size, 2, none⟩ = some (.int .i64 0) := Hct6.out.cell 2
         have kc3 : wt6.cell? ⟨wt4.heap.size, 3, none⟩ = some (.int .i64 0) := Hct6.out.cell 3
         have kc4 : wt6.cell? ⟨wt4.heap.size, 4, none⟩ = some (.int .i64 0) := Hct6.out.cell 4
         have kc5 : wt6.cell? ⟨wt4.heap.size, 5, none⟩ = some (.int .i64 0) := Hct6.out.cell 5
         have kc6 : wt6.cell? ⟨wt4.heap.size, 6, none⟩ = some (.int .i64 0) := Hct6.out.cell 6
         have kc7 : wt6.cell? ⟨wt4.heap.size, 7, none⟩ = some (.int .i64 0) := Hct6.out.cell 7
         have kc8 : wt6.cell? ⟨wt4.heap.size, 8, none⟩ = some (.slice none 0 0) := Hct6.out.cell 8
         have lt_c : wt4.heap.size < wt6.heap.size := Hct6.out.lt
         have hclr := run_clear_nil wt6 0
         have kb0 : wt6.cell? ⟨w.heap.size, 0, none⟩ = some (.int .i64 b.cool) := Hbt6.out.cell 0
         have kb1 : wt6.cell? ⟨w.heap.size, 1, none⟩ = some (.int .i64 b.gangs) := Hbt6.out.cell 1
         have kb2 : wt6.cell? ⟨w.heap.size, 2, none⟩ = some (.int .i64 b.r0) := Hbt6.out.cell 2
         have kb3 : wt6.cell? ⟨w.heap.size, 3, none⟩ = some (.int .i64 b.r1) := Hbt6.out.cell 3
         have kb4 : wt6.cell? ⟨w.heap.size, 4, none⟩ = some (.int .i64 b.r2) := Hbt6.out.cell 4
         have kb5 : wt6.cell? ⟨w.heap.size, 5, none⟩ = some (.int .i64 b.r3) := Hbt6.out.cell 5
         have kb6 : wt6.cell? ⟨w.heap.size, 6, none⟩ = some (.int .i64 b.r4) := Hbt6.out.cell 6
         have kb7 : wt6.cell? ⟨w.heap.size, 7, none⟩ = some (.int .i64 b.r5) := Hbt6.out.cell 7
         have kb8 : wt6.cell? ⟨w.heap.size, 8, none⟩ = some (.slice A bs.length c) := Hbt6.out.cell 8
         have lt_b : w.heap.size < wt6.heap.size := Hbt6.out.lt
         have ko0 : wt6.cell? ⟨zn8, 0, none⟩ = some (.int .i64 b.cool) := Hot6.out.cell 0
         have ko1 : wt6.cell? ⟨zn8, 1, none⟩ = some (.int .i64 b.gangs) := Hot6.out.cell 1
         have ko2 : wt6.cell? ⟨zn8, 2, none⟩ = some (.int .i64 b.r0) := Hot6.out.cell 2
         have ko3 : wt6.cell? ⟨zn8, 3, none⟩ = some (.int .i64 b.r1) := Hot6.out.cell 3
         have ko4 : wt6.cell? ⟨zn8, 4, none⟩ = some (.int .i64 b.r2) := Hot6.out.cell 4
         have ko5 : wt6.cell? ⟨zn8, 5, none⟩ = some (.int .i64 b.r3) := Hot6.out.cell 5
         have ko6 : wt6.cell? ⟨zn8, 6, none⟩ = some (.int .i64 b.r4) := Hot6.out.cell 6
         have ko7 : wt6.cell? ⟨zn8, 7, none⟩ = some (.int .i64 b.r5) := Hot6.out.cell 7
         have ko8 : wt6.cell? ⟨zn8, 8, none⟩ = some (.slice A1n8 bs.length c1n8) := Hot6.out.cell 8
         have lt_o : zn8 < wt6.heap.size := Hot6.out.lt
         go_wp2_with (at_builtin; (refine wpList_clear_run _ rfl _ _ rfl _ rfl hclr ?_))
         refine (same_same b A1n8 A c1n8 c bs _ (HUt6.out.up zg) (HAt6.out.up zg) h8').mono ?_
         rintro e wt8 ⟨rfl, hbt8⟩
         have Hbt8 := Lib.hid (Holds.up (by have h := Hbt6.out; exact zp1 : Holds _ (w.heap.size) 25 #[.int .i64 b.cool, .int .i64 b.gangs, .int .i64 b.r0, .int .i64 b.r1, .int .i64 b.r2, .int .i64 b.r3, .int .i64 b.r4, .int .i64 b.r5, .slice A bs.length c]) hbt8)
         have Hot8 := Lib.hid (Holds.up (by have h := Hot6.out; exact zp1 : Holds _ (zn8) 25 #[.int .i64 b.cool, .int .i64 b.gangs, .int .i64 b.r0, .int .i64 b.r1, .int .i64 b.r2, .int .i64 b.r3, .int .i64 b.r4, .int .i64 b.r5, .slice A1n8 bs.length c1n8]) hbt8)
         have HSt8 : Hid (Below wt6.heap.size wt6 wt8) := Lib.hid (Below.trans zg (hbt8.mono (by first | exact Nat.le_refl _ | omega | (simp; done) | (simp; omega))))
         have HBt8 : Hid (Below w.heap.size w wt8) := Lib.hid (HBt6.out.trans (HSt8.out.mono hst6))
         have hst8 := HBt8.out.size
         have hstt8 := HSt8.out.size
         have HAt8 := Lib.hid (HAt6.out.up HSt8.out)
         have HQt8 := Lib.hid (HQt6.out.up HSt8.out)
         have HUt8 := Lib.hid (HUt6.out.up HSt8.out)
         have HVt8 := Lib.hid (HVt6.out.up HSt8.out)
         clear hbt8
         clear kb0 kb1 kb2 kb3 kb4 kb5 kb6 kb7 kb8 lt_b ko0 ko1 ko2 ko3 ko4 ko5 ko6 ko7 ko8 lt_o
         go_wp2_with fail
         refine (EqRows_same A39 P p.length q p _ (HVt8.out.up zg) (HQt8.out.up zg) (by omega) HLL.out).mono ?_
         rintro e wt9 ⟨rfl, hbt9⟩
         have Hbt9 := Lib.hid (Holds.up (by have h := Hbt8.out; exact zp1 : Holds _ (w.heap.size) 25 #[.int .i64 b.cool, .int .i64 b.gangs, .int .i64 b.r0, .int .i64 b.r1, .int .i64 b.r2, .int .i64 b.r3, .int .i64 b.r4, .int .i64 b.r5, .slice A bs.length c]) hbt9)
         have Hot9 := Lib.hid (Holds.up (by have h := Hot8.out; exact zp1 : Holds _ (zn8) 25 #[.int .i64 b.cool, .int .i64 b.gangs, .int .i64 b.r0, .int .i64 b.r1, .int .i64 b.r2, .int .i64 b.r3, .int .i64 b.r4, .int .i64 b.r5, .slice A1n8 bs.length c1n8]) hbt9)
         have HSt9 : Hid (Below wt8.heap.size wt8 wt9) := Lib.hid (Below.trans zg (hbt9.mono (by first | exact Nat.le_refl _ | omega | (simp; done) | (simp; omega))))
         have HBt9 : Hid (Below w.heap.size w wt9) := Lib.hid (HBt8.out.trans (HSt9.out.mono hst8))
         have hst9 := HBt9.out.size
         have hstt9 := HSt9.out.size
         have HAt9 := Lib.hid (HAt8.out.up HSt9.out)
         have HQt9 := Lib.hid (HQt8.out.up HSt9.out)
         have HUt9 := Lib.hid (HUt8.out.up HSt9.out)
         have HVt9 := Lib.hid (HVt8.out.up HSt9.out)
         clear hbt9
         go_wp2_with fail
         refine (awake_any _).mono ?_
         rintro e w40 ⟨rfl, hb40⟩
         go_wp2_with fail
         go_ret
         exact ⟨rfl, HBt9.out.trans (hb40.mono hst9)⟩
       | false =>
        obtain ⟨hd0, hb0, -⟩ := HF.out.1 rfl
        subst hd0
        subst hb0
        as_aux_lemma =>
         have hpos : 0 < bs.length := by have := (barn_right HG.out).1; simp only [within, Bool.and_eq_true, decide_eq_true_eq] at this; omega
         have hn4 : bs.length ≤ 4 := by have := (barn_right HG.out).1; simp only [within, Bool.and_eq_true, decide_eq_true_eq] at this; omega
         have kb0 : wf.cell? ⟨w.heap.size, 0, none⟩ = some (.int .i64 b.cool) := Hbf.out.cell 0
         have kb1 : wf.cell? ⟨w.heap.size, 1, none⟩ = some (.int .i64 b.gangs) := Hbf.out.cell 1
         have kb2 : wf.cell? ⟨w.heap.size, 2, none⟩ = some (.int .i64 b.r0) := Hbf.out.cell 2
         have kb3 : wf.cell? ⟨w.heap.size, 3, none⟩ = some (.int .i64 b.r1) := Hbf.out.cell 3
         have kb4 : wf.cell? ⟨w.heap.size, 4, none⟩ = some (.int .i64 b.r2) := Hbf.out.cell 4
         have kb5 : wf.cell? ⟨w.heap.size, 5, none⟩ = some (.int .i64 b.r3) := Hbf.out.cell 5
         have kb6 : wf.cell? ⟨w.heap.size, 6, none⟩ = some (.int .i64 b.r4) := Hbf.out.cell 6
         have kb7 : wf.cell? ⟨w.heap.size, 7, none⟩ = some (.int .i64 b.r5) := Hbf.out.cell 7
         have kb8 : wf.cell? ⟨w.heap.size, 8, none⟩ = some (.slice A bs.length c) := Hbf.out.cell 8
         have lt_b : w.heap.size < wf.heap.size := Hbf.out.lt
         go_wp2_with fail
         refine (Own_any b A c bs _ (HAf.out.up zg) h8' HAN.out).mono ?_
         rintro e wg ⟨A9, c9, rfl, hown, hbg⟩
         have Hbg := Lib.hid (Holds.up (by have h := Hbf.out; exact zp1 : Holds _ (w.heap.size) 25 #[.int .i64 b.cool, .int .i64 b.gangs, .int .i64 b.r0, .int .i64 b.r1, .int .i64 b.r2, .int .i64 b.r3, .int .i64 b.r4, .int .i64 b.r5, .slice A bs.length c]) hbg)
         have Hog := Lib.hid (Holds.up (by have h := Hof.out; exact zp1 : Holds _ (zn8) 25 #[.int .i64 b.cool, .int .i64 b.gangs, .int .i64 b.r0, .int .i64 b.r1, .int .i64 b.r2, .int .i64 b.r3, .int .i64 b.r4, .int .i64 b.r5, .slice A1n8 bs.length c1n8]) hbg)
         have Hxg := Lib.hid (Holds.up (by have h := Hxf.out; exact zp1 : Holds _ (zn9) 33 #[.int .i64 b.cool, .int .i64 b.gangs, .int .i64 b.r0, .int .i64 b.r1, .int .i64 b.r2, .int .i64 b.r3, .int .i64 b.r4, .int .i64 b.r5, .slice A2n9 bs.length c2n9]) hbg)
         have Hng := Lib.hid (Holds.up (by have h := Hnf.out; exact zp1 : Holds _ (wd.heap.size) 25 #[.int .i64 0, .int .i64 0, .int .i64 0, .int .i64 0, .int .i64 0, .int .i64 0, .int .i64 0, .int .i64 0, .slice none 0 0]) hbg)
         have HSg : Hid (Below wf.heap.size wf wg) := Lib.hid (Below.trans zg (hbg.mono (by first | exact Nat.le_refl _ | omega | (simp; done) | (simp; omega))))
         have HBg : Hid (Below w.heap.size w wg) := Lib.hid (HBf.out.trans (HSg.out.mono hsf))
         have hsg := HBg.out.size
         have hstg := HSg.out.size
         have HAg := Lib.hid (HAf.out.up HSg.out)
         have HQg := Lib.hid (HQf.out.up HSg.out)
         have HUg := Lib.hid (HUf.out.up HSg.out)
         have HMg := Lib.hid (HMf.out.up HSg.out)
         have HVg := Lib.hid (HVf.out.up HSg.out)
         have HYg := Lib.hid (HYf.out.up HSg.out)
         clear hbg
         have HOWg : Hid (OwnBins wg wf.heap.size 39 (.slice A9 bs.length c9) bs) := Lib.hid hown
         clear hown
         clear kb0 kb1 kb2 kb3 kb4 kb5 kb6 kb7 kb8 lt_b
         obtain ⟨g9, rest, eA9, hg9, hH9⟩ := own_rest HOWg.out hpos
         subst eA9
         have hltn : wd.heap.size < wf.heap.size := Hnf.out.lt
         obtain ⟨w6, hw6⟩ : ∃ z, z = wg.setRow (wd.heap.size) #[.int .i64 b.cool, .int .i64 b.gangs, .int .i64 b.r0, .int .i64 b.r1, .int .i64 b.r2, .int .i64 b.r3, .int .i64 b.r4, .int .i64 b.r5, .slice (some ⟨g9, 0, none⟩) bs.length c9] := ⟨_, rfl⟩
         have hrun6 := store_barn wg (wd.heap.size) (.int .i64 0) (.int .i64 0) (.int .i64 0) (.int .i64 0) (.int .i64 0) (.int .i64 0) (.int .i64 0) (.int .i64 0) (.slice none 0 0) (.int .i64 b.cool) (.int .i64 b.gangs) (.int .i64 b.r0) (.int .i64 b.r1) (.int .i64 b.r2) (.int .i64 b.r3) (.int .i64 b.r4) (.int .i64 b.r5) (.slice (some ⟨g9, 0, none⟩) bs.length c9) Hng.out
         rw [← hw6] at hrun6
         have hgr6 : wg.grownBy w6 (some (wd.heap.size)) := by rw [hw6]; exact grown_row wg _ _
         have HN6 : Hid (Holds w6 (wd.heap.size) 25 #[.int .i64 b.cool, .int .i64 b.gangs, .int .i64 b.r0, .int .i64 b.r1, .int .i64 b.r2, .int .i64 b.r3, .int .i64 b.r4, .int .i64 b.r5, .slice (some ⟨g9, 0, none⟩) bs.length c9]) := Lib.hid (by rw [hw6]; exact setRow_heap wg _ _ _ _ _ Hng.out)
         have HG6 : Hid (Holds w6 g9 39 (bs.flatMap Bn.cells ++ rest).toArray) := Lib.hid (hH9.grown hgr6 (by omega))
         have HY6 : Hid (OwnSp w6 (wd.heap.size + 1) (.slice G4 L.length g4) L) := Lib.hid (OwnSp.turn HYg.out hgr6 (fun r e cs u fr hc => by cases e; rw [show wg.heap[_]? = _ from Hng.out] at hc; cases hc; decide))
         have HZ6 : Hid (Below wd.heap.size wd w6) := Lib.hid ((((HSc.out.trans (HSf.out.mono hstc)).trans (HSg.out.mono (Nat.le_trans hstc hstf))).grown hgr6 (Nat.le_trans hstc (Nat.le_trans hstf hstg)) (fun k e => by cases e; exact Nat.le_refl _)))
         have hs6 := HZ6.out.size
         have hsz6 := hgr6.size
         clear hw6 hgr6 hH9
         obtain ⟨ws, hws⟩ : ∃ z, (lastW (firstOf bs bs.length) (wallsFrom b bs 0 (firstOf bs bs.length) p)) = z := ⟨_, rfl⟩
         have HWS := Lib.hid hws
         clear hws
         obtain ⟨E0, oo, eA, hcell0⟩ := HAd.out (by omega)
         subst eA
         clear hcell0
         have kn68 : w6.cell? ⟨wd.heap.size, 8, none⟩ = some (.slice (some ⟨g9, 0, none⟩) bs.length c9) := HN6.out.cell 8
         have ln6 := HN6.out.lt
         go_wp2_with (refine wpList_store_run _ rfl 25 _ _ rfl ⟨wd.heap.size, 0, none⟩ rfl rfl hrun6 ?_)
         go_loopw [123] (fun v123 wr => ∃ k : Nat, v123 = .int .i64 (k : Int) ∧ k ≤ bs.length ∧ Hid (Holds wr g9 39 ((aft bs ws k).flatMap Bn.cells ++ rest).toArray) ∧ Hid (Below wf.heap.size w6 wr)) (fun v123 _ => bs.length - (intOf v123).toNat)
         case atStart => exact ⟨0, rfl, Nat.zero_le _, Lib.hid (by rw [aft_zero]; exact HG6.out), Lib.hid (Below.refl _ _)⟩
         case round =>
          obtain ⟨k, rfl, hk, HGr, HPr⟩ := hrel
          have HZr : Hid (Below wd.heap.size wd wr) := Lib.hid (HZ6.out.trans (HPr.out.mono (by omega)))
          have HBr := Lib.hid (HBd.out.trans (HZr.out.mono hsd))
          have hsr := HBr.out.size
          have hszr := HPr.out.size
          have HYr : Hid (OwnSp wr (wd.heap.size + 1) (.slice G4 L.length g4) L) := Lib.hid (sp_low HY6.out HPr.out (fun r e => by have h := OwnSp.lt HYf.out; exact h r e))
          have Hnr := Lib.hid (Holds.low HN6.out HPr.out hltn)
          have Hbr := Lib.hid (Hbd.out.up HZr.out)
          have Hor := Lib.hid (Hod.out.up HZr.out)
          have Hxr := Lib.hid (Hxd.out.up HZr.out)
          have HAr := Lib.hid (HAd.out.up HZr.out)
          have HQr := Lib.hid (HQd.out.up HZr.out)
          have HUr := Lib.hid (HUd.out.up HZr.out)
          have HMr := Lib.hid (HMd.out.up HZr.out)
          have HVr := Lib.hid (HVd.out.up HZr.out)
          by_cases hkl : k < bs.length
          ·have hkl' : (k : Int) < bs.length := by omega
           obtain ⟨x, hx⟩ : ∃ z, bs[k]? = some z := ⟨_, List.getElem?_eq_getElem hkl⟩
           have HX := Lib.hid hx
           obtain ⟨s, hs, hs0, hs1⟩ := lw_at (b := b) (p := p) hn4 hx
           rw [HWS.out] at hs
           have HS := Lib.hid hs
           have HS0 := Lib.hid hs0
           have HS1 := Lib.hid hs1
           clear hx hs hs0 hs1
           obtain ⟨E1, o1, eE, hcell⟩ := HAr.out (by omega)
           cases eE
           obtain ⟨l, m, hlo, hhi, hl6, hm6, -⟩ := good_bin HG.out HX.out
           have ke0 : wr.cell? ⟨E0, oo + k * 4, none⟩ = some (.int .i64 x.warm) := hcell k x HX.out 0 _ rfl
           have ke1 : wr.cell? ⟨E0, oo + k * 4 + 1, none⟩ = some (.int .i64 x.mark) := hcell k x HX.out 1 _ rfl
           have ke2 : wr.cell? ⟨E0, oo + k * 4 + 2, none⟩ = some (.int .i64 x.lo) := hcell k x HX.out 2 _ rfl
           have ke3 : wr.cell? ⟨E0, oo + k * 4 + 3, none⟩ = some (.int .i64 x.hi) := hcell k x HX.out 3 _ rfl
           rw [hlo] at ke2
           rw [hhi] at ke3
           have lE := World.block_lt_of_cell? wr _ ke0
           have HLO2 := Lib.hid hlo
           have HHI := Lib.hid hhi
           clear hlo hhi
           clear hcell
           have k8r : wr.cell? ⟨w.heap.size, 8, none⟩ = some (.slice (some ⟨E0, oo, none⟩) bs.length c) := Hbr.out.cell 8
           have lbr := Hbr.out.lt
           go_wp2_with fail
           rename_i Kc3 hKc
           have HSL := Lib.hid (show slotsOf [some 126, some 127, some 128, some 129, some 130, some 131, some 132, some 133, some 134, some 135, some 136, some 23] = [126, 127, 128, 129, 130, 131, 132, 133, 134, 135, 136, 23] from rfl)
           refine wp_region_partsG (by kernel_rfl) [some 126, some 127, some 128, some 129, some 130, some 131, some 132, some 133, some 134, some 135, some 136, some 23] (fun jq xq w' => match jq with
            | 0 => xq 126 = .agg #[.int .i64 b.cool, .int .i64 b.gangs, .int .i64 b.r0, .int .i64 b.r1, .int .i64 b.r2, .int .i64 b.r3, .int .i64 b.r4, .int .i64 b.r5, .slice A2n9 bs.length c2n9]
            | 1 => xq 127 = .slice P p.length q
            | 2 => xq 128 = .int .i64 (k : Int)
            | 3 => xq 129 = .pointer (some ⟨w.heap.size, 8, none⟩)
            | 4 => xq 130 = .slice (some ⟨E0, oo, none⟩) bs.length c
            | 5 => xq 131 = .int .i64 (k : Int)
            | 6 => xq 132 = .pointer (some ⟨E0, oo + k * 4, none⟩)
            | 7 => xq 133 = .pointer (some ⟨E0, oo + k * 4 + 2, none⟩)
            | 8 => xq 134 = .pointer (some ⟨E0, oo + k * 4 + 3, none⟩)
            | 9 => xq 135 = .int .i64 (m : Int)
            | 10 => ∃ H h, xq 136 = .slice H p.length h ∧ OwnInts w' wr.heap.size (.slice H p.length h) (warmList b.cool (b.rise (m : Int)) (k : Int) x.warm p)
            | 11 => ∃ H h, xq 23 = .slice H p.length h ∧ OwnInts w' wr.heap.size (.slice H p.length h) (warmList b.cool (b.rise (m : Int)) (k : Int) x.warm p)
            | _ => True) [[126], [127], [128], [129], [130], [131], [132], [133], [134], [135], [136], [23]] [] (fun w' => Below wr.heap.size wr w') (by kernel_rfl)  ?_ ?_ (fun w' w'' hb g => g.trans (hb.mono g.size)) (Below.refl _ _) ?_ ?_ ?_
           ·intro jq xq xq' wqq h hv
            match jq, h, hv with
            | 0, h, hv => show xq' 126 = .agg #[.int .i64 b.cool, .int .i64 b.gangs, .int .i64 b.r0, .int .i64 b.r1, .int .i64 b.r2, .int .i64 b.r3, .int .i64 b.r4, .int .i64 b.r5, .slice A2n9 bs.length c2n9]; rw [← h 126 (by decide)]; exact hv
            | 1, h, hv => show xq' 127 = .slice P p.length q; rw [← h 127 (by decide)]; exact hv
            | 2, h, hv => show xq' 128 = .int .i64 (k : Int); rw [← h 128 (by decide)]; exact hv
            | 3, h, hv => show xq' 129 = .pointer (some ⟨w.heap.size, 8, none⟩); rw [← h 129 (by decide)]; exact hv
            | 4, h, hv => show xq' 130 = .slice (some ⟨E0, oo, none⟩) bs.length c; rw [← h 130 (by decide)]; exact hv
            | 5, h, hv => show xq' 131 = .int .i64 (k : Int); rw [← h 131 (by decide)]; exact hv
            | 6, h, hv => show xq' 132 = .pointer (some ⟨E0, oo + k * 4, none⟩); rw [← h 132 (by decide)]; exact hv
            | 7, h, hv => show xq' 133 = .pointer (some ⟨E0, oo + k * 4 + 2, none⟩); rw [← h 133 (by decide)]; exact hv
            | 8, h, hv => show xq' 134 = .pointer (some ⟨E0, oo + k * 4 + 3, none⟩); rw [← h 134 (by decide)]; exact hv
            | 9, h, hv => show xq' 135 = .int .i64 (m : Int); rw [← h 135 (by decide)]; exact hv
            | 10, h, hv => show ∃ H h, xq' 136 = .slice H p.length h ∧ OwnInts wqq wr.heap.size (.slice H p.length h) (warmList b.cool (b.rise (m : Int)) (k : Int) x.warm p); rw [← h 136 (by decide)]; exact hv
            | 11, h, hv => show ∃ H h, xq' 23 = .slice H p.length h ∧ OwnInts wqq wr.heap.size (.slice H p.length h) (warmList b.cool (b.rise (m : Int)) (k : Int) x.warm p); rw [← h 23 (by decide)]; exact hv
            | _ + 12, _, _ => trivial
           ·intro jq xq wqq w' hb' hv
            match jq, hv with
            | 0, hv => exact hv
            | 1, hv => exact hv
            | 2, hv => exact hv
            | 3, hv => exact hv
            | 4, hv => exact hv
            | 5, hv => exact hv
            | 6, hv => exact hv
            | 7, hv => exact hv
            | 8, hv => exact hv
            | 9, hv => exact hv
            | 10, ⟨b0, b1, h0, h1⟩ => exact ⟨b0, b1, h0, h1.up hb'⟩
            | 11, ⟨b0, b1, h0, h1⟩ => exact ⟨b0, b1, h0, h1.up hb'⟩
            | _ + 12, _ => trivial
           ·intro jq hj
            match jq, hj with
            | 0, hj => exact absurd hj (by decide)
            | 1, hj => exact absurd hj (by decide)
            | 2, hj => exact absurd hj (by decide)
            | 3, hj => exact absurd hj (by decide)
            | 4, hj => exact absurd hj (by decide)
            | 5, hj => exact absurd hj (by decide)
            | 6, hj => exact absurd hj (by decide)
            | 7, hj => exact absurd hj (by decide)
            | 8, hj => exact absurd hj (by decide)
            | 9, hj => exact absurd hj (by decide)
            | 10, hj => exact absurd hj (by decide)
            | 11, hj => exact absurd hj (by decide)
            | _ + 12, _ => trivial
           ·refine ⟨?_, ?_, ?_, ?_, ?_, ?_, ?_, ?_, ?_, ?_, ?_, ?_, trivial⟩
            ·intro xq wu hbu hx K hK0
             have hK := fun v w' hb => hK0 v w' (.inl hb)
             clear hx hKc hK0
             have kx0' : wu.cell? ⟨zn9, 0, none⟩ = some (.int .i64 b.cool) := (Hxr.out.up hbu).cell 0
             have kx1' : wu.cell? ⟨zn9, 1, none⟩ = some (.int .i64 b.gangs) := (Hxr.out.up hbu).cell 1
             have kx2' : wu.cell? ⟨zn9, 2, none⟩ = some (.int .i64 b.r0) := (Hxr.out.up hbu).cell 2
             have kx3' : wu.cell? ⟨zn9, 3, none⟩ = some (.int .i64 b.r1) := (Hxr.out.up hbu).cell 3
             have kx4' : wu.cell? ⟨zn9, 4, none⟩ = some (.int .i64 b.r2) := (Hxr.out.up hbu).cell 4
             have kx5' : wu.cell? ⟨zn9, 5, none⟩ = some (.int .i64 b.r3) := (Hxr.out.up hbu).cell 5
             have kx6' : wu.cell? ⟨zn9, 6, none⟩ = some (.int .i64 b.r4) := (Hxr.out.up hbu).cell 6
             have kx7' : wu.cell? ⟨zn9, 7, none⟩ = some (.int .i64 b.r5) := (Hxr.out.up hbu).cell 7
             have kx8' : wu.cell? ⟨zn9, 8, none⟩ = some (.slice A2n9 bs.length c2n9) := (Hxr.out.up hbu).cell 8
             simp only [frameOf, fill, setSlot, sg, Nat.reduceBEq, if_true, if_false, Nat.reduceAdd, Nat.reduceEqDiff, HSL.out] at hK ⊢
             go_wp2_with (fail)
             exact hK _ _ (Below.refl _ _) rfl
            ·intro xq wu hbu hx K hK0
             have hK := fun v w' hb => hK0 v w' (.inl hb)
             clear hx hKc hK0
             simp only [frameOf, fill, setSlot, sg, Nat.reduceBEq, if_true, if_false, Nat.reduceAdd, Nat.reduceEqDiff, HSL.out] at hK ⊢
             go_wp2_with (fail)
             exact hK _ _ (Below.refl _ _) rfl
            ·intro xq wu hbu hx K hK0
             have hK := fun v w' hb => hK0 v w' (.inl hb)
             clear hx hKc hK0
             simp only [frameOf, fill, setSlot, sg, Nat.reduceBEq, if_true, if_false, Nat.reduceAdd, Nat.reduceEqDiff, HSL.out] at hK ⊢
             go_wp2_with (fail)
             exact hK _ _ (Below.refl _ _) rfl
            ·intro xq wu hbu hx K hK0
             have hK := fun v w' hb => hK0 v w' (.inl hb)
             clear hx hKc hK0
             simp only [frameOf, fill, setSlot, sg, Nat.reduceBEq, if_true, if_false, Nat.reduceAdd, Nat.reduceEqDiff, HSL.out] at hK ⊢
             go_wp2_with (fail)
             exact hK _ _ (Below.refl _ _) rfl
            ·intro xq wu hbu hx K hK0
             have hK := fun v w' hb => hK0 v w' (.inl hb)
             have e129 : xq 129 = .pointer (some ⟨w.heap.size, 8, none⟩) := hx 3 (by rfl) (by rfl)
             clear hx hKc hK0
             have q4 : wu.cell? ⟨w.heap.size, 8, none⟩ = some (.slice (some ⟨E0, oo, none⟩) bs.length c) := (Hbr.out.up hbu).cell 8
             simp only [frameOf, fill, setSlot, sg, Nat.reduceBEq, if_true, if_false, Nat.reduceAdd, Nat.reduceEqDiff, HSL.out] at hK ⊢
             simp only [e129] at hK ⊢
             clear e129
             go_wp2_with (fail)
             exact hK _ _ (Below.refl _ _) rfl
            ·intro xq wu hbu hx K hK0
             have hK := fun v w' hb => hK0 v w' (.inl hb)
             clear hx hKc hK0
             simp only [frameOf, fill, setSlot, sg, Nat.reduceBEq, if_true, if_false, Nat.reduceAdd, Nat.reduceEqDiff, HSL.out] at hK ⊢
             go_wp2_with (fail)
             exact hK _ _ (Below.refl _ _) rfl
            ·intro xq wu hbu hx K hK0
             have hK := fun v w' hb => hK0 v w' (.inl hb)
             have e130 : xq 130 = .slice (some ⟨E0, oo, none⟩) bs.length c := hx 4 (by rfl) (by rfl)
             have e131 : xq 131 = .int .i64 (k : Int) := hx 5 (by rfl) (by rfl)
             clear hx hKc hK0
             simp only [frameOf, fill, setSlot, sg, Nat.reduceBEq, if_true, if_false, Nat.reduceAdd, Nat.reduceEqDiff, HSL.out] at hK ⊢
             simp only [e130, e131] at hK ⊢
             clear e130 e131
             go_wp2_with (fail)
             exact hK _ _ (Below.refl _ _) rfl
            ·intro xq wu hbu hx K hK0
             have hK := fun v w' hb => hK0 v w' (.inl hb)
             have e132 : xq 132 = .pointer (some ⟨E0, oo + k * 4, none⟩) := hx 6 (by rfl) (by rfl)
             clear hx hKc hK0
             simp only [frameOf, fill, setSlot, sg, Nat.reduceBEq, if_true, if_false, Nat.reduceAdd, Nat.reduceEqDiff, HSL.out] at hK ⊢
             simp only [e132] at hK ⊢
             clear e132
             go_wp2_with (fail)
             exact hK _ _ (Below.refl _ _) rfl
            ·intro xq wu hbu hx K hK0
             have hK := fun v w' hb => hK0 v w' (.inl hb)
             have e133 : xq 133 = .pointer (some ⟨E0, oo + k * 4 + 2, none⟩) := hx 7 (by rfl) (by rfl)
             clear hx hKc hK0
             simp only [frameOf, fill, setSlot, sg, Nat.reduceBEq, if_true, if_false, Nat.reduceAdd, Nat.reduceEqDiff, HSL.out] at hK ⊢
             simp only [e133] at hK ⊢
             clear e133
             go_wp2_with (fail)
             exact hK _ _ (Below.refl _ _) rfl
            ·intro xq wu hbu hx K hK0
             have hK := fun v w' hb => hK0 v w' (.inl hb)
             have e134 : xq 134 = .pointer (some ⟨E0, oo + k * 4 + 3, none⟩) := hx 8 (by rfl) (by rfl)
             clear hx hKc hK0
             have q9 : wu.cell? ⟨E0, oo + k * 4 + 3, none⟩ = some (.int .i64 (m : Int)) := up_cell hbu ke3
             simp only [frameOf, fill, setSlot, sg, Nat.reduceBEq, if_true, if_false, Nat.reduceAdd, Nat.reduceEqDiff, HSL.out] at hK ⊢
             simp only [e134] at hK ⊢
             clear e134
             go_wp2_with (fail)
             exact hK _ _ (Below.refl _ _) rfl
            ·intro xq wu hbu hx K hK0
             have hK := fun v w' hb => hK0 v w' (.inl hb)
             have e126 : xq 126 = .agg #[.int .i64 b.cool, .int .i64 b.gangs, .int .i64 b.r0, .int .i64 b.r1, .int .i64 b.r2, .int .i64 b.r3, .int .i64 b.r4, .int .i64 b.r5, .slice A2n9 bs.length c2n9] := hx 0 (by rfl) (by rfl)
             have e127 : xq 127 = .slice P p.length q := hx 1 (by rfl) (by rfl)
             have e128 : xq 128 = .int .i64 (k : Int) := hx 2 (by rfl) (by rfl)
             have e135 : xq 135 = .int .i64 (m : Int) := hx 9 (by rfl) (by rfl)
             clear hx hKc hK0
             simp only [frameOf, fill, setSlot, sg, Nat.reduceBEq, if_true, if_false, Nat.reduceAdd, Nat.reduceEqDiff, HSL.out] at hK ⊢
             simp only [e126, e127, e128, e135] at hK ⊢
             clear e126 e127 e128 e135
             go_wp2_with (go_at_call 25; refine (refWarmth_any b A2n9 c2n9 bs P q p _ (HMr.out.up hbu) h8' (HQr.out.up hbu) (by omega) HLL.out HG.out k x HX.out m hm6).mono ?_; rintro e w2_ ⟨G1, d1, rfl, hown, hb_⟩)
             exact hK _ _ hb_ ⟨_, _, rfl, rowq_mono hown hbu.size⟩
            ·intro xq wu hbu hx K hK0
             have hK := fun v w' hb => hK0 v w' (.inl hb)
             obtain ⟨H136, h136, e136, f136_0⟩ := hx 10 (by rfl) (by rfl)
             clear hx hKc hK0
             simp only [frameOf, fill, setSlot, sg, Nat.reduceBEq, if_true, if_false, Nat.reduceAdd, Nat.reduceEqDiff, HSL.out] at hK ⊢
             simp only [e136] at hK ⊢
             clear e136
             go_wp2_with (fail)
             exact hK _ _ (Below.refl _ _) ⟨_, _, rfl, f136_0⟩
           ·intro xq wu hbu hx
            have e126 : xq 126 = .agg #[.int .i64 b.cool, .int .i64 b.gangs, .int .i64 b.r0, .int .i64 b.r1, .int .i64 b.r2, .int .i64 b.r3, .int .i64 b.r4, .int .i64 b.r5, .slice A2n9 bs.length c2n9] := hx 0 (by decide)
            have e127 : xq 127 = .slice P p.length q := hx 1 (by decide)
            have e128 : xq 128 = .int .i64 (k : Int) := hx 2 (by decide)
            have e129 : xq 129 = .pointer (some ⟨w.heap.size, 8, none⟩) := hx 3 (by decide)
            have e130 : xq 130 = .slice (some ⟨E0, oo, none⟩) bs.length c := hx 4 (by decide)
            have e131 : xq 131 = .int .i64 (k : Int) := hx 5 (by decide)
            have e132 : xq 132 = .pointer (some ⟨E0, oo + k * 4, none⟩) := hx 6 (by decide)
            have e133 : xq 133 = .pointer (some ⟨E0, oo + k * 4 + 2, none⟩) := hx 7 (by decide)
            have e134 : xq 134 = .pointer (some ⟨E0, oo + k * 4 + 3, none⟩) := hx 8 (by decide)
            have e135 : xq 135 = .int .i64 (m : Int) := hx 9 (by decide)
            obtain ⟨H136, h136, e136, f136_0⟩ := hx 10 (by decide)
            obtain ⟨H23, h23, e23, f23_0⟩ := hx 11 (by decide)
            clear hx
            simp only [frameOf, fill, setSlot, sg, Nat.reduceBEq, if_true, if_false, Nat.reduceAdd, Nat.reduceEqDiff, HSL.out]
            simp only [e126, e127, e128, e129, e130, e131, e132, e133, e134, e135, e136, e23]
            clear e126 e127 e128 e129 e130 e131 e132 e133 e134 e135 e136 e23
            refine hKc _ _ ?_
            have HSy := Lib.hid hbu
            have HIy := Lib.hid (ints_of f23_0)
            have HGy := Lib.hid (HGr.out.up hbu)
            have Hny := Lib.hid (Hnr.out.up hbu)
            have hsy := hbu.size
            clear hbu f23_0 ke0 ke1 ke2 ke3 lE k8r
            by_cases hp0 : 0 < p.length
            ·have hp0' : (0 : Int) < p.length := by omega
             obtain ⟨n, hn⟩ : ∃ n, p.length = n + 1 := ⟨p.length - 1, by omega⟩
             have HN := Lib.hid hn
             have hlst := HS1.out hp0
             rw [HHI.out, hn, Nat.add_sub_cancel] at hlst
             have HLST := Lib.hid hlst
             obtain ⟨Bl, ol, eL, hcl⟩ := HIy.out (by rw [warm_len]; exact hp0)
             subst eL
             have kl := hcl n s.2 hlst
             have ll := World.block_lt_of_cell? wu _ kl
             have HKL := Lib.hid kl
             clear hcl hlst hn
             go_wp2_with fail
             have hKc := True.intro
             have HSL := Lib.hid (show slotsOf [some 140, some 141, some 142, some 143, some 144, some 145, some 146, some 147, some 148, some 149, some 150, none] = [140, 141, 142, 143, 144, 145, 146, 147, 148, 149, 150] from rfl)
             refine wp_region_partsG (by kernel_rfl) [some 140, some 141, some 142, some 143, some 144, some 145, some 146, some 147, some 148, some 149, some 150, none] (fun jq xq w' => match jq with
              | 0 => xq 140 = .pointer (some ⟨wd.heap.size, 8, none⟩)
              | 1 => xq 141 = .slice (some ⟨g9, 0, none⟩) bs.length c9
              | 2 => xq 142 = .int .i64 (k : Int)
              | 3 => xq 143 = .slice (some ⟨Bl, ol, none⟩) p.length h23
              | 4 => xq 144 = .slice (some ⟨Bl, ol, none⟩) p.length h23
              | 5 => xq 145 = .int .i64 (p.length : Int)
              | 6 => xq 146 = .int .i64 (n : Int)
              | 7 => xq 147 = .pointer (some ⟨Bl, ol + n, none⟩)
              | 8 => xq 148 = .int .i64 s.2
              | 9 => xq 149 = .pointer (some ⟨g9, k * 4, none⟩)
              | 10 => xq 150 = .pointer (some ⟨g9, k * 4, none⟩)
              | 11 => Holds w' g9 39 ((aft bs ws (k + 1)).flatMap Bn.cells ++ rest).toArray
              | 12 => Holds w' g9 39 ((aft bs ws k).flatMap Bn.cells ++ rest).toArray
              | 13 => IntsAt w' (some ⟨Bl, ol, none⟩) (warmList b.cool (b.rise (m : Int)) (k : Int) x.warm p)
              | _ => True) [[140], [141], [142], [143], [144], [145], [146], [147], [148], [149], [150], [], [], []] [(11, 12), (11, 13)] (fun w' => Below wf.heap.size w6 w' ∧ wu.heap.size ≤ w'.heap.size ∧ Holds w' (wd.heap.size) 25 #[.int .i64 b.cool, .int .i64 b.gangs, .int .i64 b.r0, .int .i64 b.r1, .int .i64 b.r2, .int .i64 b.r3, .int .i64 b.r4, .int .i64 b.r5, .slice (some ⟨g9, 0, none⟩) bs.length c9]) (by kernel_rfl)  ?_ ?_ (fun w' w'' hb g => ⟨g.1.trans (hb.mono (Nat.le_trans (by omega) g.2.1)), Nat.le_trans g.2.1 hb.size, g.2.2.up hb⟩) (⟨HPr.out.trans (HSy.out.mono (by omega)), Nat.le_refl _, Hny.out⟩) ?_ ?_ ?_
             ·intro jq xq xq' wqq h hv
              match jq, h, hv with
              | 0, h, hv => show xq' 140 = .pointer (some ⟨wd.heap.size, 8, none⟩); rw [← h 140 (by decide)]; exact hv
              | 1, h, hv => show xq' 141 = .slice (some ⟨g9, 0, none⟩) bs.length c9; rw [← h 141 (by decide)]; exact hv
              | 2, h, hv => show xq' 142 = .int .i64 (k : Int); rw [← h 142 (by decide)]; exact hv
              | 3, h, hv => show xq' 143 = .slice (some ⟨Bl, ol, none⟩) p.length h23; rw [← h 143 (by decide)]; exact hv
              | 4, h, hv => show xq' 144 = .slice (some ⟨Bl, ol, none⟩) p.length h23; rw [← h 144 (by decide)]; exact hv
              | 5, h, hv => show xq' 145 = .int .i64 (p.length : Int); rw [← h 145 (by decide)]; exact hv
              | 6, h, hv => show xq' 146 = .int .i64 (n : Int); rw [← h 146 (by decide)]; exact hv
              | 7, h, hv => show xq' 147 = .pointer (some ⟨Bl, ol + n, none⟩); rw [← h 147 (by decide)]; exact hv
              | 8, h, hv => show xq' 148 = .int .i64 s.2; rw [← h 148 (by decide)]; exact hv
              | 9, h, hv => show xq' 149 = .pointer (some ⟨g9, k * 4, none⟩); rw [← h 149 (by decide)]; exact hv
              | 10, h, hv => show xq' 150 = .pointer (some ⟨g9, k * 4, none⟩); rw [← h 150 (by decide)]; exact hv
              | 11, h, hv => exact hv
              | 12, h, hv => exact hv
              | 13, h, hv => exact hv
              | _ + 14, _, _ => trivial
             ·intro jq xq wqq w' hb' hv
              match jq, hv with
              | 0, hv => exact hv
              | 1, hv => exact hv
              | 2, hv => exact hv
              | 3, hv => exact hv
              | 4, hv => exact hv
              | 5, hv => exact hv
              | 6, hv => exact hv
              | 7, hv => exact hv
              | 8, hv => exact hv
              | 9, hv => exact hv
              | 10, hv => exact hv
              | 11, h0 => exact h0.up hb'
              | 12, h0 => exact h0.up hb'
              | 13, h0 => exact h0.up hb'
              | _ + 14, _ => trivial
             ·intro jq hj
              match jq, hj with
              | 0, hj => exact absurd hj (by decide)
              | 1, hj => exact absurd hj (by decide)
              | 2, hj => exact absurd hj (by decide)
              | 3, hj => exact absurd hj (by decide)
              | 4, hj => exact absurd hj (by decide)
              | 5, hj => exact absurd hj (by decide)
              | 6, hj => exact absurd hj (by decide)
              | 7, hj => exact absurd hj (by decide)
              | 8, hj => exact absurd hj (by decide)
              | 9, hj => exact absurd hj (by decide)
              | 10, hj => exact absurd hj (by decide)
              | 11, hj => exact absurd hj (by decide)
              | 12, _ => exact HGy.out
              | 13, _ => exact HIy.out
              | _ + 14, _ => trivial
             ·refine ⟨?_, ?_, ?_, ?_, ?_, ?_, ?_, ?_, ?_, ?_, ?_, ?_, trivial⟩
              ·intro xq wy hby hx K hK0
               have hK := fun v w' hb => hK0 v w' (.inl hb)
               clear hx hKc hK0
               simp only [frameOf, fill, setSlot, sg, Nat.reduceBEq, if_true, if_false, Nat.reduceAdd, Nat.reduceEqDiff, HSL.out] at hK ⊢
               go_wp2_with (fail)
               exact hK _ _ (Below.refl _ _) rfl
              ·intro xq wy hby hx K hK0
               have hK := fun v w' hb => hK0 v w' (.inl hb)
               have e140 : xq 140 = .pointer (some ⟨wd.heap.size, 8, none⟩) := hx 0 (by rfl) (by rfl)
               clear hx hKc hK0
               have q1 : wy.cell? ⟨wd.heap.size, 8, none⟩ = some (.slice (some ⟨g9, 0, none⟩) bs.length c9) := hby.2.2.cell 8
               simp only [frameOf, fill, setSlot, sg, Nat.reduceBEq, if_true, if_false, Nat.reduceAdd, Nat.reduceEqDiff, HSL.out] at hK ⊢
               simp only [e140] at hK ⊢
               clear e140
               go_wp2_with (fail)
               exact hK _ _ (Below.refl _ _) rfl
              ·intro xq wy hby hx K hK0
               have hK := fun v w' hb => hK0 v w' (.inl hb)
               clear hx hKc hK0
               simp only [frameOf, fill, setSlot, sg, Nat.reduceBEq, if_true, if_false, Nat.reduceAdd, Nat.reduceEqDiff, HSL.out] at hK ⊢
               go_wp2_with (fail)
               exact hK _ _ (Below.refl _ _) rfl
              ·intro xq wy hby hx K hK0
               have hK := fun v w' hb => hK0 v w' (.inl hb)
               clear hx hKc hK0
               simp only [frameOf, fill, setSlot, sg, Nat.reduceBEq, if_true, if_false, Nat.reduceAdd, Nat.reduceEqDiff, HSL.out] at hK ⊢
               go_wp2_with (fail)
               exact hK _ _ (Below.refl _ _) rfl
              ·intro xq wy hby hx K hK0
               have hK := fun v w' hb => hK0 v w' (.inl hb)
               clear hx hKc hK0
               simp only [frameOf, fill, setSlot, sg, Nat.reduceBEq, if_true, if_false, Nat.reduceAdd, Nat.reduceEqDiff, HSL.out] at hK ⊢
               go_wp2_with (fail)
               exact hK _ _ (Below.refl _ _) rfl
              ·intro xq wy hby hx K hK0
               have hK := fun v w' hb => hK0 v w' (.inl hb)
               have e144 : xq 144 = .slice (some ⟨Bl, ol, none⟩) p.length h23 := hx 4 (by rfl) (by rfl)
               clear hx hKc hK0
               simp only [frameOf, fill, setSlot, sg, Nat.reduceBEq, if_true, if_false, Nat.reduceAdd, Nat.reduceEqDiff, HSL.out] at hK ⊢
               simp only [e144] at hK ⊢
               clear e144
               go_wp2_with (fail)
               exact hK _ _ (Below.refl _ _) rfl
              ·intro xq wy hby hx K hK0
               have hK := fun v w' hb => hK0 v w' (.inl hb)
               have e145 : xq 145 = .int .i64 (p.length : Int) := hx 5 (by rfl) (by rfl)
               clear hx hKc hK0
               simp only [frameOf, fill, setSlot, sg, Nat.reduceBEq, if_true, if_false, Nat.reduceAdd, Nat.reduceEqDiff, HSL.out] at hK ⊢
               simp only [e145] at hK ⊢
               clear e145
               go_wp2_with (fail)
               all_goals exact hK _ _ (Below.refl _ _) (congrArg (Value.int .i64) (by have := HN.out; omega))
              ·intro xq wy hby hx K hK0
               have hK := fun v w' hb => hK0 v w' (.inl hb)
               have e143 : xq 143 = .slice (some ⟨Bl, ol, none⟩) p.length h23 := hx 3 (by rfl) (by rfl)
               have e146 : xq 146 = .int .i64 (n : Int) := hx 6 (by rfl) (by rfl)
               clear hx hKc hK0
               have hnn := HN.out
               simp only [frameOf, fill, setSlot, sg, Nat.reduceBEq, if_true, if_false, Nat.reduceAdd, Nat.reduceEqDiff, HSL.out] at hK ⊢
               simp only [e143, e146] at hK ⊢
               clear e143 e146
               go_wp2_with (fail)
               exact hK _ _ (Below.refl _ _) rfl
              ·intro xq wy hby hx K hK0
               have hK := fun v w' hb => hK0 v w' (.inl hb)
               have e147 : xq 147 = .pointer (some ⟨Bl, ol + n, none⟩) := hx 7 (by rfl) (by rfl)
               have fil_0 : IntsAt wy (some ⟨Bl, ol, none⟩) (warmList b.cool (b.rise (m : Int)) (k : Int) x.warm p) := hx 13 (by rfl) (by rfl)
               clear hx hKc hK0
               have q8 : wy.cell? ⟨Bl, ol + n, none⟩ = some (.int .i64 s.2) := ints_cell fil_0 HLST.out
               simp only [frameOf, fill, setSlot, sg, Nat.reduceBEq, if_true, if_false, Nat.reduceAdd, Nat.reduceEqDiff, HSL.out] at hK ⊢
               simp only [e147] at hK ⊢
               clear e147
               go_wp2_with (fail)
               exact hK _ _ (Below.refl _ _) rfl
              ·intro xq wy hby hx K hK0
               have hK := fun v w' hb => hK0 v w' (.inl hb)
               have e141 : xq 141 = .slice (some ⟨g9, 0, none⟩) bs.length c9 := hx 1 (by rfl) (by rfl)
               have e142 : xq 142 = .int .i64 (k : Int) := hx 2 (by rfl) (by rfl)
               clear hx hKc hK0
               simp only [frameOf, fill, setSlot, sg, Nat.reduceBEq, if_true, if_false, Nat.reduceAdd, Nat.reduceEqDiff, HSL.out] at hK ⊢
               simp only [e141, e142] at hK ⊢
               clear e141 e142
               go_wp2_with (fail)
               exact hK _ _ (Below.refl _ _) rfl
              ·intro xq wy hby hx K hK0
               have hK := fun v w' hb => hK0 v w' (.inl hb)
               have e149 : xq 149 = .pointer (some ⟨g9, k * 4, none⟩) := hx 9 (by rfl) (by rfl)
               clear hx hKc hK0
               simp only [frameOf, fill, setSlot, sg, Nat.reduceBEq, if_true, if_false, Nat.reduceAdd, Nat.reduceEqDiff, HSL.out] at hK ⊢
               simp only [e149] at hK ⊢
               clear e149
               go_wp2_with (fail)
               exact hK _ _ (Below.refl _ _) rfl
              ·intro xq wy hby hx K hK0
               have hK := fun v w' hb => hK0 v w' (.inr hb)
               have e148 : xq 148 = .int .i64 s.2 := hx 8 (by rfl) (by rfl)
               have e150 : xq 150 = .pointer (some ⟨g9, k * 4, none⟩) := hx 10 (by rfl) (by rfl)
               have fig_0 : Holds wy g9 39 ((aft bs ws k).flatMap Bn.cells ++ rest).toArray := hx 12 (by rfl) (by rfl)
               clear hx hKc hK0
               have q9 : wy.cell? ⟨g9, k * 4, none⟩ = some (.int .i64 x.warm) := (fig_0.cell _).trans (by rw [List.getElem?_toArray]; exact aft_cell HX.out rest)
               have z9 := fig_0.frozen (k * 4)
               have l9 := fig_0.lt
               simp only [frameOf, fill, setSlot, sg, Nat.reduceBEq, if_true, if_false, Nat.reduceAdd, Nat.reduceEqDiff, HSL.out] at hK ⊢
               have E148 := Lib.hid e148
               have E150 := Lib.hid e150
               simp only [e148, e150] at hK ⊢
               clear e148 e150
               go_wp2_with (fail)
               refine hK undef _ ⟨(by obtain ⟨h1_, h2_, h3_⟩ := hby; exact ⟨h1_.setCell (by simp only; omega) _, by simp only [World.size_setCell]; exact h2_, h3_.far (p := ⟨g9, k * 4, none⟩) (by simp only [ne_eq]; omega) _⟩), ?_⟩ (by have h := fig_0.setL (k * 4) (.int .i64 s.2); rw [set_rest s.2 rest (aft_at HX.out (Nat.le_refl _)), aft_step HX.out HS.out] at h; exact h)
               intro jq xq hd hne hv
               match jq, hd, hne, hv with
               | 0, _, _, hv => exact hv
               | 1, _, _, hv => exact hv
               | 2, _, _, hv => exact hv
               | 3, _, _, hv => exact hv
               | 4, _, _, hv => exact hv
               | 5, _, _, hv => exact hv
               | 6, _, _, hv => exact hv
               | 7, _, _, hv => exact hv
               | 8, _, _, hv => exact hv
               | 9, _, _, hv => exact hv
               | 10, _, _, hv => exact hv
               | 11, _, hne, _ => exact absurd rfl hne
               | 12, hd, _, _ => exact absurd hd (by decide)
               | 13, hd, _, _ => exact absurd hd (by decide)
               | _ + 14, _, _, _ => trivial
             ·intro xq wy hby hx
              have e140 : xq 140 = .pointer (some ⟨wd.heap.size, 8, none⟩) := hx 0 (by decide)
              have e141 : xq 141 = .slice (some ⟨g9, 0, none⟩) bs.length c9 := hx 1 (by decide)
              have e142 : xq 142 = .int .i64 (k : Int) := hx 2 (by decide)
              have e143 : xq 143 = .slice (some ⟨Bl, ol, none⟩) p.length h23 := hx 3 (by decide)
              have e144 : xq 144 = .slice (some ⟨Bl, ol, none⟩) p.length h23 := hx 4 (by decide)
              have e145 : xq 145 = .int .i64 (p.length : Int) := hx 5 (by decide)
              have e146 : xq 146 = .int .i64 (n : Int) := hx 6 (by decide)
              have e147 : xq 147 = .pointer (some ⟨Bl, ol + n, none⟩) := hx 7 (by decide)
              have e148 : xq 148 = .int .i64 s.2 := hx 8 (by decide)
              have e149 : xq 149 = .pointer (some ⟨g9, k * 4, none⟩) := hx 9 (by decide)
              have e150 : xq 150 = .pointer (some ⟨g9, k * 4, none⟩) := hx 10 (by decide)
              have fn11_0 : Holds wy g9 39 ((aft bs ws (k + 1)).flatMap Bn.cells ++ rest).toArray := hx 11 (by decide)
              clear hx
              simp only [frameOf, fill, setSlot, sg, Nat.reduceBEq, if_true, if_false, Nat.reduceAdd, Nat.reduceEqDiff, HSL.out]
              simp only [e140, e141, e142, e143, e144, e145, e146, e147, e148, e149, e150]
              clear e140 e141 e142 e143 e144 e145 e146 e147 e148 e149 e150
              go_wp2_with fail
              go_roundw
              case rel => exact ⟨k + 1, by go_num, hkl, Lib.hid (fn11_0), Lib.hid (hby.1)⟩
              case measure => first | (simp [intOf]; done) | (simp [intOf]; omega)
            ·have hp0' : ¬ (0 : Int) < p.length := by omega
             have hpe : p.length = 0 := by omega
             have hse := HS0.out hpe
             have HAF : Hid (aft bs ws (k + 1) = aft bs ws k) := Lib.hid (aft_same HX.out HS.out hse)
             clear hse hpe
             go_wp2_with fail
             go_roundw
             case rel => exact ⟨k + 1, by go_num, hkl, Lib.hid (by rw [HAF.out]; exact HGy.out), Lib.hid (HPr.out.trans (HSy.out.mono (by omega)))⟩
             case measure => first | (simp [intOf]; done) | (simp [intOf]; omega)
          ·have hkl' : ¬ (k : Int) < bs.length := by omega
           have HKE : Hid (k = bs.length) := Lib.hid (by omega)
           have HCr : Hid (BinsAt wr (some ⟨g9, 0, none⟩) (aft bs ws bs.length)) := Lib.hid (by have h := row_of_rest HGr.out; rw [HKE.out] at h; exact h)
           have ko0 : wr.cell? ⟨zn8, 0, none⟩ = some (.int .i64 b.cool) := Hor.out.cell 0
           have ko1 : wr.cell? ⟨zn8, 1, none⟩ = some (.int .i64 b.gangs) := Hor.out.cell 1
           have ko2 : wr.cell? ⟨zn8, 2, none⟩ = some (.int .i64 b.r0) := Hor.out.cell 2
           have ko3 : wr.cell? ⟨zn8, 3, none⟩ = some (.int .i64 b.r1) := Hor.out.cell 3
           have ko4 : wr.cell? ⟨zn8, 4, none⟩ = some (.int .i64 b.r2) := Hor.out.cell 4
           have ko5 : wr.cell? ⟨zn8, 5, none⟩ = some (.int .i64 b.r3) := Hor.out.cell 5
           have ko6 : wr.cell? ⟨zn8, 6, none⟩ = some (.int .i64 b.r4) := Hor.out.cell 6
           have ko7 : wr.cell? ⟨zn8, 7, none⟩ = some (.int .i64 b.r5) := Hor.out.cell 7
           have ko8 : wr.cell? ⟨zn8, 8, none⟩ = some (.slice A1n8 bs.length c1n8) := Hor.out.cell 8
           have lt_o : zn8 < wr.heap.size := Hor.out.lt
           go_wp2_with fail
           refine (Warmth_any b A1n8 c1n8 bs h8' A39 p.length p (by omega) HLL.out bin HCE.out _ (HUr.out.up zg) (HVr.out.up zg)).mono ?_
           rw [HT.out, HL.out]
           rintro e wt1 ⟨G5, g5, rfl, hsp5, hbt1⟩
           have Hbt1 := Lib.hid (Holds.up (by have h := Hbr.out; exact zp1 : Holds _ (w.heap.size) 25 #[.int .i64 b.cool, .int .i64 b.gangs, .int .i64 b.r0, .int .i64 b.r1, .int .i64 b.r2, .int .i64 b.r3, .int .i64 b.r4, .int .i64 b.r5, .slice (some ⟨E0, oo, none⟩) bs.length c]) hbt1)
           have Hot1 := Lib.hid (Holds.up (by have h := Hor.out; exact zp1 : Holds _ (zn8) 25 #[.int .i64 b.cool, .int .i64 b.gangs, .int .i64 b.r0, .int .i64 b.r1, .int .i64 b.r2, .int .i64 b.r3, .int .i64 b.r4, .int .i64 b.r5, .slice A1n8 bs.length c1n8]) hbt1)
           have Hnt1 := Lib.hid (Holds.up (by have h := Hnr.out; exact zp1 : Holds _ (wd.heap.size) 25 #[.int .i64 b.cool, .int .i64 b.gangs, .int .i64 b.r0, .int .i64 b.r1, .int .i64 b.r2, .int .i64 b.r3, .int .i64 b.r4, .int .i64 b.r5, .slice (some ⟨g9, 0, none⟩) bs.length c9]) hbt1)
           have HSt1 : Hid (Below wr.heap.size wr wt1) := Lib.hid (Below.trans zg (hbt1.mono (by first | exact Nat.le_refl _ | omega | (simp; done) | (simp; omega))))
           have HBt1 : Hid (Below w.heap.size w wt1) := Lib.hid (HBr.out.trans (HSt1.out.mono hsr))
           have hst1 := HBt1.out.size
           have hstt1 := HSt1.out.size
           have HAt1 := Lib.hid (HAr.out.up HSt1.out)
           have HQt1 := Lib.hid (HQr.out.up HSt1.out)
           have HUt1 := Lib.hid (HUr.out.up HSt1.out)
           have HVt1 := Lib.hid (HVr.out.up HSt1.out)
           have HYt1 := Lib.hid (HYr.out.up HSt1.out)
           have HCt1 := Lib.hid (HCr.out.up HSt1.out)
           clear hbt1
           have HZt1 := Lib.hid hsp5
           clear hsp5
           clear ko0 ko1 ko2 ko3 ko4 ko5 ko6 ko7 ko8 lt_o
           have ko0 : wt1.cell? ⟨zn8, 0, none⟩ = some (.int .i64 b.cool) := Hot1.out.cell 0
           have ko1 : wt1.cell? ⟨zn8, 1, none⟩ = some (.int .i64 b.gangs) := Hot1.out.cell 1
           have ko2 : wt1.cell? ⟨zn8, 2, none⟩ = some (.int .i64 b.r0) := Hot1.out.cell 2
           have ko3 : wt1.cell? ⟨zn8, 3, none⟩ = some (.int .i64 b.r1) := Hot1.out.cell 3
           have ko4 : wt1.cell? ⟨zn8, 4, none⟩ = some (.int .i64 b.r2) := Hot1.out.cell 4
           have ko5 : wt1.cell? ⟨zn8, 5, none⟩ = some (.int .i64 b.r3) := Hot1.out.cell 5
           have ko6 : wt1.cell? ⟨zn8, 6, none⟩ = some (.int .i64 b.r4) := Hot1.out.cell 6
           have ko7 : wt1.cell? ⟨zn8, 7, none⟩ = some (.int .i64 b.r5) := Hot1.out.cell 7
           have ko8 : wt1.cell? ⟨zn8, 8, none⟩ = some (.slice A1n8 bs.length c1n8) := Hot1.out.cell 8
           have lt_o : zn8 < wt1.heap.size := Hot1.out.lt
           go_wp2_with fail
           refine (Keeps_ok b A1n8 c1n8 bs h8' A39 p.length p (by omega) HLL.out HCE.out 0 0 false HF.out _ (HUt1.out.up zg) (HVt1.out.up zg)).mono ?_
           rintro e wt2 ⟨rfl, hbt2⟩
           have Hbt2 := Lib.hid (Holds.up (by have h := Hbt1.out; exact zp1 : Holds _ (w.heap.size) 25 #[.int .i64 b.cool, .int .i64 b.gangs, .int .i64 b.r0, .int .i64 b.r1, .int .i64 b.r2, .int .i64 b.r3, .int .i64 b.r4, .int .i64 b.r5, .slice (some ⟨E0, oo, none⟩) bs.length c]) hbt2)
           have Hot2 := Lib.hid (Holds.up (by have h := Hot1.out; exact zp1 : Holds _ (zn8) 25 #[.int .i64 b.cool, .int .i64 b.gangs, .int .i64 b.r0, .int .i64 b.r1, .int .i64 b.r2, .int .i64 b.r3, .int .i64 b.r4, .int .i64 b.r5, .slice A1n8 bs.length c1n8]) hbt2)
           have Hnt2 := Lib.hid (Holds.up (by have h := Hnt1.out; exact zp1 : Holds _ (wd.heap.size) 25 #[.int .i64 b.cool, .int .i64 b.gangs, .int .i64 b.r0, .int .i64 b.r1, .int .i64 b.r2, .int .i64 b.r3, .int .i64 b.r4, .int .i64 b.r5, .slice (some ⟨g9, 0, none⟩) bs.length c9]) hbt2)
           have HSt2 : Hid (Below wt1.heap.size wt1 wt2) := Lib.hid (Below.trans zg (hbt2.mono (by first | exact Nat.le_refl _ | omega | (simp; done) | (simp; omega))))
           have HBt2 : Hid (Below w.heap.size w wt2) := Lib.hid (HBt1.out.trans (HSt2.out.mono hst1))
           have hst2 := HBt2.out.size
           have hstt2 := HSt2.out.size
           have HAt2 := Lib.hid (HAt1.out.up HSt2.out)
           have HQt2 := Lib.hid (HQt1.out.up HSt2.out)
           have HUt2 := Lib.hid (HUt1.out.up HSt2.out)
           have HVt2 := Lib.hid (HVt1.out.up HSt2.out)
           have HYt2 := Lib.hid (HYt1.out.up HSt2.out)
           have HCt2 := Lib.hid (HCt1.out.up HSt2.out)
           have HZt2 := Lib.hid (HZt1.out.up HSt2.out)
           clear hbt2
           clear ko0 ko1 ko2 ko3 ko4 ko5 ko6 ko7 ko8 lt_o
           have ko0 : wt2.cell? ⟨zn8, 0, none⟩ = some (.int .i64 b.cool) := Hot2.out.cell 0
           have ko1 : wt2.cell? ⟨zn8, 1, none⟩ = some (.int .i64 b.gangs) := Hot2.out.cell 1
           have ko2 : wt2.cell? ⟨zn8, 2, none⟩ = some (.int .i64 b.r0) := Hot2.out.cell 2
           have ko3 : wt2.cell? ⟨zn8, 3, none⟩ = some (.int .i64 b.r1) := Hot2.out.cell 3
           have ko4 : wt2.cell? ⟨zn8, 4, none⟩ = some (.int .i64 b.r2) := Hot2.out.cell 4
           have ko5 : wt2.cell? ⟨zn8, 5, none⟩ = some (.int .i64 b.r3) := Hot2.out.cell 5
           have ko6 : wt2.cell? ⟨zn8, 6, none⟩ = some (.int .i64 b.r4) := Hot2.out.cell 6
           have ko7 : wt2.cell? ⟨zn8, 7, none⟩ = some (.int .i64 b.r5) := Hot2.out.cell 7
           have ko8 : wt2.cell? ⟨zn8, 8, none⟩ = some (.slice A1n8 bs.length c1n8) := Hot2.out.cell 8
           have lt_o : zn8 < wt2.heap.size := Hot2.out.lt
           go_wp2_with fail
           refine (Burns_ok b A1n8 c1n8 bs h8' A39 p.length p (by omega) HLL.out HCE.out 0 0 false HF.out _ (HUt2.out.up zg) (HVt2.out.up zg)).mono ?_
           rw [if_neg (by decide)]
           rintro e wt3 ⟨rfl, hbt3⟩
           have Hbt3 := Lib.hid (Holds.up (by have h := Hbt2.out; exact zp1 : Holds _ (w.heap.size) 25 #[.int .i64 b.cool, .int .i64 b.gangs, .int .i64 b.r0, .int .i64 b.r1, .int .i64 b.r2, .int .i64 b.r3, .int .i64 b.r4, .int .i64 b.r5, .slice (some ⟨E0, oo, none⟩) bs.length c]) hbt3)
           have Hot3 := Lib.hid (Holds.up (by have h := Hot2.out; exact zp1 : Holds _ (zn8) 25 #[.int .i64 b.cool, .int .i64 b.gangs, .int .i64 b.r0, .int .i64 b.r1, .int .i64 b.r2, .int .i64 b.r3, .int .i64 b.r4, .int .i64 b.r5, .slice A1n8 bs.length c1n8]) hbt3)
           have Hnt3 := Lib.hid (Holds.up (by have h := Hnt2.out; exact zp1 : Holds _ (wd.heap.size) 25 #[.int .i64 b.cool, .int .i64 b.gangs, .int .i64 b.r0, .int .i64 b.r1, .int .i64 b.r2, .int .i64 b.r3, .int .i64 b.r4, .int .i64 b.r5, .slice (some ⟨g9, 0, none⟩) bs.length c9]) hbt3)
           have HSt3 : Hid (Below wt2.heap.size wt2 wt3) := Lib.hid (Below.trans zg (hbt3.mono (by first | exact Nat.le_refl _ | omega | (simp; done) | (simp; omega))))
           have HBt3 : Hid (Below w.heap.size w wt3) := Lib.hid (HBt2.out.trans (HSt3.out.mono hst2))
           have hst3 := HBt3.out.size
           have hstt3 := HSt3.out.size
           have HAt3 := Lib.hid (HAt2.out.up HSt3.out)
           have HQt3 := Lib.hid (HQt2.out.up HSt3.out)
           have HUt3 := Lib.hid (HUt2.out.up HSt3.out)
           have HVt3 := Lib.hid (HVt2.out.up HSt3.out)
           have HYt3 := Lib.hid (HYt2.out.up HSt3.out)
           have HCt3 := Lib.hid (HCt2.out.up HSt3.out)
           have HZt3 := Lib.hid (HZt2.out.up HSt3.out)
           clear hbt3
           clear ko0 ko1 ko2 ko3 ko4 ko5 ko6 ko7 ko8 lt_o
           have ko0 : wt3.cell? ⟨zn8, 0, none⟩ = some (.int .i64 b.cool) := Hot3.out.cell 0
           have ko1 : wt3.cell? ⟨zn8, 1, none⟩ = some (.int .i64 b.gangs) := Hot3.out.cell 1
           have ko2 : wt3.cell? ⟨zn8, 2, none⟩ = some (.int .i64 b.r0) := Hot3.out.cell 2
           have ko3 : wt3.cell? ⟨zn8, 3, none⟩ = some (.int .i64 b.r1) := Hot3.out.cell 3
           have ko4 : wt3.cell? ⟨zn8, 4, none⟩ = some (.int .i64 b.r2) := Hot3.out.cell 4
           have ko5 : wt3.cell? ⟨zn8, 5, none⟩ = some (.int .i64 b.r3) := Hot3.out.cell 5
           have ko6 : wt3.cell? ⟨zn8, 6, none⟩ = some (.int .i64 b.r4) := Hot3.out.cell 6
           have ko7 : wt3.cell? ⟨zn8, 7, none⟩ = some (.int .i64 b.r5) := Hot3.out.cell 7
           have ko8 : wt3.cell? ⟨zn8, 8, none⟩ = some (.slice A1n8 bs.length c1n8) := Hot3.out.cell 8
           have lt_o : zn8 < wt3.heap.size := Hot3.out.lt
           go_wp2_with fail
           refine (After_good b A1n8 c1n8 bs h8' A39 p.length p (by omega) HLL.out HCE.out HF.out _ (HUt3.out.up zg) (HVt3.out.up zg)).mono ?_
           rintro e wt4 ⟨B5, rfl, hB5, hle5, hbt4⟩
           have Hbt4 := Lib.hid (Holds.up (by have h := Hbt3.out; exact zp1 : Holds _ (w.heap.size) 25 #[.int .i64 b.cool, .int .i64 b.gangs, .int .i64 b.r0, .int .i64 b.r1, .int .i64 b.r2, .int .i64 b.r3, .int .i64 b.r4, .int .i64 b.r5, .slice (some ⟨E0, oo, none⟩) bs.length c]) hbt4)
           have Hot4 := Lib.hid (Holds.up (by have h := Hot3.out; exact zp1 : Holds _ (zn8) 25 #[.int .i64 b.cool, .int .i64 b.gangs, .int .i64 b.r0, .int .i64 b.r1, .int .i64 b.r2, .int .i64 b.r3, .int .i64 b.r4, .int .i64 b.r5, .slice A1n8 bs.length c1n8]) hbt4)
           have Hnt4 := Lib.hid (Holds.up (by have h := Hnt3.out; exact zp1 : Holds _ (wd.heap.size) 25 #[.int .i64 b.cool, .int .i64 b.gangs, .int .i64 b.r0, .int .i64 b.r1, .int .i64 b.r2, .int .i64 b.r3, .int .i64 b.r4, .int .i64 b.r5, .slice (some ⟨g9, 0, none⟩) bs.length c9]) hbt4)
           have HSt4 : Hid (Below wt3.heap.size wt3 wt4) := Lib.hid (Below.trans zg (hbt4.mono (by first | exact Nat.le_refl _ | omega | (simp; done) | (simp; omega))))
           have HBt4 : Hid (Below w.heap.size w wt4) := Lib.hid (HBt3.out.trans (HSt4.out.mono hst3))
           have hst4 := HBt4.out.size
           have hstt4 := HSt4.out.size
           have HAt4 := Lib.hid (HAt3.out.up HSt4.out)
           have HQt4 := Lib.hid (HQt3.out.up HSt4.out)
           have HUt4 := Lib.hid (HUt3.out.up HSt4.out)
           have HVt4 := Lib.hid (HVt3.out.up HSt4.out)
           have HYt4 := Lib.hid (HYt3.out.up HSt4.out)
           have HCt4 := Lib.hid (HCt3.out.up HSt4.out)
           have HZt4 := Lib.hid (HZt3.out.up HSt4.out)
           clear hbt4
           rw [HWS.out] at hB5
           have HB5t4 := Lib.hid hB5
           have HRBt4 := Lib.hid (row_of Bn.len hB5)
           clear hB5
           clear ko0 ko1 ko2 ko3 ko4 ko5 ko6 ko7 ko8 lt_o
           go_wp2_with fail
           refine (eqSpan_same G5 G4 g5 g4 L _ (sp_at (OwnSp.up HZt4.out zg)) (sp_at (OwnSp.up HYt4.out zg)) (by rw [← HL.out]; exact Nat.le_trans (warm_of_len b bs p bin) (by omega))).mono ?_
           rintro e wt5 ⟨rfl, hbt5⟩
           have Hbt5 := Lib.hid (Holds.up (by have h := Hbt4.out; exact zp1 : Holds _ (w.heap.size) 25 #[.int .i64 b.cool, .int .i64 b.gangs, .int .i64 b.r0, .int .i64 b.r1, .int .i64 b.r2, .int .i64 b.r3, .int .i64 b.r4, .int .i64 b.r5, .slice (some ⟨E0, oo, none⟩) bs.length c]) hbt5)
           have Hot5 := Lib.hid (Holds.up (by have h := Hot4.out; exact zp1 : Holds _ (zn8) 25 #[.int .i64 b.cool, .int .i64 b.gangs, .int .i64 b.r0, .int .i64 b.r1, .int .i64 b.r2, .int .i64 b.r3, .int .i64 b.r4, .int .i64 b.r5, .slice A1n8 bs.length c1n8]) hbt5)
           have Hnt5 := Lib.hid (Holds.up (by have h := Hnt4.out; exact zp1 : Holds _ (wd.heap.size) 25 #[.int .i64 b.cool, .int .i64 b.gangs, .int .i64 b.r0, .int .i64 b.r1, .int .i64 b.r2, .int .i64 b.r3, .int .i64 b.r4, .int .i64 b.r5, .slice (some ⟨g9, 0, none⟩) bs.length c9]) hbt5)
           have Hct5 := Lib.hid (Holds.up (zp1 : Holds _ (wt4.heap.size) 25 #[.int .i64 b.cool, .int .i64 b.gangs, .int .i64 b.r0, .int .i64 b.r1, .int .i64 b.r2, .int .i64 b.r3, .int .i64 b.r4, .int .i64 b.r5, .slice (some ⟨B5, 0, none⟩) bs.length bs.length]) hbt5)
           have HSt5 : Hid (Below wt4.heap.size wt4 wt5) := Lib.hid (Below.trans zg (hbt5.mono (by first | exact Nat.le_refl _ | omega | (simp; done) | (simp; omega))))
           have HBt5 : Hid (Below w.heap.size w wt5) := Lib.hid (HBt4.out.trans (HSt5.out.mono hst4))
           have hst5 := HBt5.out.size
           have hstt5 := HSt5.out.size
           have HAt5 := Lib.hid (HAt4.out.up HSt5.out)
           have HQt5 := Lib.hid (HQt4.out.up HSt5.out)
           have HUt5 := Lib.hid (HUt4.out.up HSt5.out)
           have HVt5 := Lib.hid (HVt4.out.up HSt5.out)
           have HYt5 := Lib.hid (HYt4.out.up HSt5.out)
           have HCt5 := Lib.hid (HCt4.out.up HSt5.out)
           have HZt5 := Lib.hid (HZt4.out.up HSt5.out)
           have HB5t5 := Lib.hid (HB5t4.out.up HSt5.out)
           have HRBt5 := Lib.hid (HRBt4.out.up HSt5.out)
           clear hbt5
           have kc0 : wt5.cell? ⟨wt4.heap.size, 0, none⟩ = some (.int .i64 b.cool) := Hct5.out.cell 0
           have kc1 : wt5.cell? ⟨wt4.heap.size, 1, none⟩ = some (.int .i64 b.gangs) := Hct5.out.cell 1
           have kc2 : wt5.cell? ⟨wt4.heap.size, 2, none⟩ = some (.int .i64 b.r0) := Hct5.out.cell 2
           have kc3 : wt5.cell? ⟨wt4.heap.size, 3, none⟩ = some (.int .i64 b.r1) := Hct5.out.cell 3
           have kc4 : wt5.cell? ⟨wt4.heap.size, 4, none⟩ = some (.int .i64 b.r2) := Hct5.out.cell 4
           have kc5 : wt5.cell? ⟨wt4.heap.size, 5, none⟩ = some (.int .i64 b.r3) := Hct5.out.cell 5
           have kc6 : wt5.cell? ⟨wt4.heap.size, 6, none⟩ = some (.int .i64 b.r4) := Hct5.out.cell 6
           have kc7 : wt5.cell? ⟨wt4.heap.size, 7, none⟩ = some (.int .i64 b.r5) := Hct5.out.cell 7
           have kc8 : wt5.cell? ⟨wt4.heap.size, 8, none⟩ = some (.slice (some ⟨B5, 0, none⟩) bs.length bs.length) := Hct5.out.cell 8
           have lt_c : wt4.heap.size < wt5.heap.size := Hct5.out.lt
           have kn0 : wt5.cell? ⟨wd.heap.size, 0, none⟩ = some (.int .i64 b.cool) := Hnt5.out.cell 0
           have kn1 : wt5.cell? ⟨wd.heap.size, 1, none⟩ = some (.int .i64 b.gangs) := Hnt5.out.cell 1
           have kn2 : wt5.cell? ⟨wd.heap.size, 2, none⟩ = some (.int .i64 b.r0) := Hnt5.out.cell 2
           have kn3 : wt5.cell? ⟨wd.heap.size, 3, none⟩ = some (.int .i64 b.r1) := Hnt5.out.cell 3
           have kn4 : wt5.cell? ⟨wd.heap.size, 4, none⟩ = some (.int .i64 b.r2) := Hnt5.out.cell 4
           have kn5 : wt5.cell? ⟨wd.heap.size, 5, none⟩ = some (.int .i64 b.r3) := Hnt5.out.cell 5
           have kn6 : wt5.cell? ⟨wd.heap.size, 6, none⟩ = some (.int .i64 b.r4) := Hnt5.out.cell 6
           have kn7 : wt5.cell? ⟨wd.heap.size, 7, none⟩ = some (.int .i64 b.r5) := Hnt5.out.cell 7
           have kn8 : wt5.cell? ⟨wd.heap.size, 8, none⟩ = some (.slice (some ⟨g9, 0, none⟩) bs.length c9) := Hnt5.out.cell 8
           have lt_n : wd.heap.size < wt5.heap.size := Hnt5.out.lt
           have hss := fun w' h1 h2 => same_same b (some ⟨B5, 0, none⟩) (some ⟨g9, 0, none⟩) bs.length c9 (aft bs ws bs.length) w' h1 h2 (by rw [aft_len]; exact h8')
           rw [aft_len] at hss
           have HSS := Lib.hid hss
           clear hss
           go_wp2_with fail
           refine (HSS.out _ (HRBt5.out.up zg) (HCt5.out.up zg)).mono ?_
           rintro e wt6 ⟨rfl, hbt6⟩
           have Hbt6 := Lib.hid (Holds.up (by have h := Hbt5.out; exact zp1 : Holds _ (w.heap.size) 25 #[.int .i64 b.cool, .int .i64 b.gangs, .int .i64 b.r0, .int .i64 b.r1, .int .i64 b.r2, .int .i64 b.r3, .int .i64 b.r4, .int .i64 b.r5, .slice (some ⟨E0, oo, none⟩) bs.length c]) hbt6)
           have Hot6 := Lib.hid (Holds.up (by have h := Hot5.out; exact zp1 : Holds _ (zn8) 25 #[.int .i64 b.cool, .int .i64 b.gangs, .int .i64 b.r0, .int .i64 b.r1, .int .i64 b.r2, .int .i64 b.r3, .int .i64 b.r4, .int .i64 b.r5, .slice A1n8 bs.length c1n8]) hbt6)
           have Hnt6 := Lib.hid (Holds.up (by have h := Hnt5.out; exact zp1 : Holds _ (wd.heap.size) 25 #[.int .i64 b.cool, .int .i64 b.gangs, .int .i64 b.r0, .int .i64 b.r1, .int .i64 b.r2, .int .i64 b.r3, .int .i64 b.r4, .int .i64 b.r5, .slice (some ⟨g9, 0, none⟩) bs.length c9]) hbt6)
           have Hct6 := Lib.hid (Holds.up (by have h := Hct5.out; exact zp1 : Holds _ (wt4.heap.size) 25 #[.int .i64 b.cool, .int .i64 b.gangs, .int .i64 b.r0, .int .i64 b.r1, .int .i64 b.r2, .int .i64 b.r3, .int .i64 b.r4, .int .i64 b.r5, .slice (some ⟨B5, 0, none⟩) bs.length bs.length]) hbt6)
           have HSt6 : Hid (Below wt5.heap.size wt5 wt6) := Lib.hid (Below.trans zg (hbt6.mono (by first | exact Nat.le_refl _ | omega | (simp; done) | (simp; omega))))
           have HBt6 : Hid (Below w.heap.size w wt6) := Lib.hid (HBt5.out.trans (HSt6.out.mono hst5))
           have hst6 := HBt6.out.size
           have hstt6 := HSt6.out.size
           have HAt6 := Lib.hid (HAt5.out.up HSt6.out)
           have HQt6 := Lib.hid (HQt5.out.up HSt6.out)
           have HUt6 := Lib.hid (HUt5.out.up HSt6.out)
           have HVt6 := Lib.hid (HVt5.out.up HSt6.out)
           have HYt6 := Lib.hid (HYt5.out.up HSt6.out)
           have HCt6 := Lib.hid (HCt5.out.up HSt6.out)
           have HZt6 := Lib.hid (HZt5.out.up HSt6.out)
           have HB5t6 := Lib.hid (HB5t5.out.up HSt6.out)
           have HRBt6 := Lib.hid (HRBt5.out.up HSt6.out)
           clear hbt6
           clear kn0 kn1 kn2 kn3 kn4 kn5 kn6 kn7 kn8 lt_n kc0 kc1 kc2 kc3 kc4 kc5 kc6 kc7 kc8 lt_c
           have kc0 : wt6.cell? ⟨wt4.heap.size, 0, none⟩ = some (.int .i64 b.cool) := Hct6.out.cell 0
           have kc1 : wt6.cell? ⟨wt4.heap.size, 1, none⟩ = some (.int .i64 b.gangs) := Hct6.out.cell 1
           have kc2 : wt6.cell? ⟨wt4.heap.size, 2, none⟩ = some (.int .i64 b.r0) := Hct6.out.cell 2
           have kc3 : wt6.cell? ⟨wt4.heap.size, 3, none⟩ = some (.int .i64 b.r1) := Hct6.out.cell 3
           have kc4 : wt6.cell? ⟨wt4.heap.size, 4, none⟩ = some (.int .i64 b.r2) := Hct6.out.cell 4
           have kc5 : wt6.cell? ⟨wt4.heap.size, 5, none⟩ = some (.int .i64 b.r3) := Hct6.out.cell 5
           have kc6 : wt6.cell? ⟨wt4.heap.size, 6, none⟩ = some (.int .i64 b.r4) := Hct6.out.cell 6
           have kc7 : wt6.cell? ⟨wt4.heap.size, 7, none⟩ = some (.int .i64 b.r5) := Hct6.out.cell 7
           have kc8 : wt6.cell? ⟨wt4.heap.size, 8, none⟩ = some (.slice (some ⟨B5, 0, none⟩) bs.length bs.length) := Hct6.out.cell 8
           have lt_c : wt4.heap.size < wt6.heap.size := Hct6.out.lt
           obtain ⟨wt7, hclr, hgr⟩ := run_clear_bins wt6 0 B5 bs.length _ HB5t6.out (by rw [aft_len]; omega)
           rw [aft_len] at hclr
           have HVi := (HSt4.out.trans (HSt5.out.mono hstt4)).trans (HSt6.out.mono (Nat.le_trans hstt4 hstt5))
           have HVk := HVi.grown hgr HVi.size (fun k hk => by cases hk; exact hle5)
           have HBt7 := Lib.hid (HBt3.out.trans (HVk.mono hst3))
           have hst7 := HBt7.out.size
           have HKV := Lib.hid HVk
           clear hgr HVi HVk
           have Hbt7 := Lib.hid (Hbt3.out.up HKV.out)
           have Hot7 := Lib.hid (Hot3.out.up HKV.out)
           have HAt7 := Lib.hid (HAt3.out.up HKV.out)
           have HQt7 := Lib.hid (HQt3.out.up HKV.out)
           have HUt7 := Lib.hid (HUt3.out.up HKV.out)
           have HVt7 := Lib.hid (HVt3.out.up HKV.out)
           have kb0 : wt7.cell? ⟨w.heap.size, 0, none⟩ = some (.int .i64 b.cool) := Hbt7.out.cell 0
           have kb1 : wt7.cell? ⟨w.heap.size, 1, none⟩ = some (.int .i64 b.gangs) := Hbt7.out.cell 1
           have kb2 : wt7.cell? ⟨w.heap.size, 2, none⟩ = some (.int .i64 b.r0) := Hbt7.out.cell 2
           have kb3 : wt7.cell? ⟨w.heap.size, 3, none⟩ = some (.int .i64 b.r1) := Hbt7.out.cell 3
           have kb4 : wt7.cell? ⟨w.heap.size, 4, none⟩ = some (.int .i64 b.r2) := Hbt7.out.cell 4
           have kb5 : wt7.cell? ⟨w.heap.size, 5, none⟩ = some (.int .i64 b.r3) := Hbt7.out.cell 5
           have kb6 : wt7.cell? ⟨w.heap.size, 6, none⟩ = some (.int .i64 b.r4) := Hbt7.out.cell 6
           have kb7 : wt7.cell? ⟨w.heap.size, 7, none⟩ = some (.int .i64 b.r5) := Hbt7.out.cell 7
           have kb8 : wt7.cell? ⟨w.heap.size, 8, none⟩ = some (.slice (some ⟨E0, oo, none⟩) bs.length c) := Hbt7.out.cell 8
           have lt_b : w.heap.size < wt7.heap.size := Hbt7.out.lt
           have ko0 : wt7.cell? ⟨zn8, 0, none⟩ = some (.int .i64 b.cool) := Hot7.out.cell 0
           have ko1 : wt7.cell? ⟨zn8, 1, none⟩ = some (.int .i64 b.gangs) := Hot7.out.cell 1
           have ko2 : wt7.cell? ⟨zn8, 2, none⟩ = some (.int .i64 b.r0) := Hot7.out.cell 2
           have ko3 : wt7.cell? ⟨zn8, 3, none⟩ = some (.int .i64 b.r1) := Hot7.out.cell 3
           have ko4 : wt7.cell? ⟨zn8, 4, none⟩ = some (.int .i64 b.r2) := Hot7.out.cell 4
           have ko5 : wt7.cell? ⟨zn8, 5, none⟩ = some (.int .i64 b.r3) := Hot7.out.cell 5
           have ko6 : wt7.cell? ⟨zn8, 6, none⟩ = some (.int .i64 b.r4) := Hot7.out.cell 6
           have ko7 : wt7.cell? ⟨zn8, 7, none⟩ = some (.int .i64 b.r5) := Hot7.out.cell 7
           have ko8 : wt7.cell? ⟨zn8, 8, none⟩ = some (.slice A1n8 bs.length c1n8) := Hot7.out.cell 8
           have lt_o : zn8 < wt7.heap.size := Hot7.out.lt
           go_wp2_with (at_builtin; (refine wpList_clear_run _ rfl _ _ rfl _ rfl hclr ?_))
           refine (same_same b A1n8 (some ⟨E0, oo, none⟩) c1n8 c bs _ (HUt7.out.up zg) (HAt7.out.up zg) h8').mono ?_
           rintro e wt8 ⟨rfl, hbt8⟩
           have Hbt8 := Lib.hid (Holds.up (by have h := Hbt7.out; exact zp1 : Holds _ (w.heap.size) 25 #[.int .i64 b.cool, .int .i64 b.gangs, .int .i64 b.r0, .int .i64 b.r1, .int .i64 b.r2, .int .i64 b.r3, .int .i64 b.r4, .int .i64 b.r5, .slice (some ⟨E0, oo, none⟩) bs.length c]) hbt8)
           have Hot8 := Lib.hid (Holds.up (by have h := Hot7.out; exact zp1 : Holds _ (zn8) 25 #[.int .i64 b.cool, .int .i64 b.gangs, .int .i64 b.r0, .int .i64 b.r1, .int .i64 b.r2, .int .i64 b.r3, .int .i64 b.r4, .int .i64 b.r5, .slice A1n8 bs.length c1n8]) hbt8)
           have HSt8 : Hid (Below wt7.heap.size wt7 wt8) := Lib.hid (Below.trans zg (hbt8.mono (by first | exact Nat.le_refl _ | omega | (simp; done) | (simp; omega))))
           have HBt8 : Hid (Below w.heap.size w wt8) := Lib.hid (HBt7.out.trans (HSt8.out.mono hst7))
           have hst8 := HBt8.out.size
           have hstt8 := HSt8.out.size
           have HAt8 := Lib.hid (HAt7.out.up HSt8.out)
           have HQt8 := Lib.hid (HQt7.out.up HSt8.out)
           have HUt8 := Lib.hid (HUt7.out.up HSt8.out)
           have HVt8 := Lib.hid (HVt7.out.up HSt8.out)
           clear hbt8
           clear kb0 kb1 kb2 kb3 kb4 kb5 kb6 kb7 kb8 lt_b ko0 ko1 ko2 ko3 ko4 ko5 ko6 ko7 ko8 lt_o
           go_wp2_with fail
           refine (EqRows_same A39 P p.length q p _ (HVt8.out.up zg) (HQt8.out.up zg) (by omega) HLL.out).mono ?_
           rintro e wt9 ⟨rfl, hbt9⟩
           have Hbt9 := Lib.hid (Holds.up (by have h := Hbt8.out; exact zp1 : Holds _ (w.heap.size) 25 #[.int .i64 b.cool, .int .i64 b.gangs, .int .i64 b.r0, .int .i64 b.r1, .int .i64 b.r2, .int .i64 b.r3, .int .i64 b.r4, .int .i64 b.r5, .slice (some ⟨E0, oo, none⟩) bs.length c]) hbt9)
           have Hot9 := Lib.hid (Holds.up (by have h := Hot8.out; exact zp1 : Holds _ (zn8) 25 #[.int .i64 b.cool, .int .i64 b.gangs, .int .i64 b.r0, .int .i64 b.r1, .int .i64 b.r2, .int .i64 b.r3, .int .i64 b.r4, .int .i64 b.r5, .slice A1n8 bs.length c1n8]) hbt9)
           have HSt9 : Hid (Below wt8.heap.size wt8 wt9) := Lib.hid (Below.trans zg (hbt9.mono (by first | exact Nat.le_refl _ | omega | (simp; done) | (simp; omega))))
           have HBt9 : Hid (Below w.heap.size w wt9) := Lib.hid (HBt8.out.trans (HSt9.out.mono hst8))
           have hst9 := HBt9.out.size
           have hstt9 := HSt9.out.size
           have HAt9 := Lib.hid (HAt8.out.up HSt9.out)
           have HQt9 := Lib.hid (HQt8.out.up HSt9.out)
           have HUt9 := Lib.hid (HUt8.out.up HSt9.out)
           have HVt9 := Lib.hid (HVt8.out.up HSt9.out)
           clear hbt9
           go_wp2_with fail
           refine (awake_any _).mono ?_
           rintro e w40 ⟨rfl, hb40⟩
           go_wp2_with fail
           go_ret
           exact ⟨rfl, HBt9.out.trans (hb40.mono hst9)⟩
     ·have hq : (D != 0) = true := by simpa using hD0
      have hq2 : (D == 0) = false := by simpa using hD0
      have HCE : Hid (checkErr b bs p = D) := Lib.hid (by unfold checkErr; rw [if_neg (by simp [HG.out]), HDQ.out])
      go_wp2_with fail
      refine (Planned_any b A2n9 c2n9 bs.length h8' P q p _ (HQe.out.up zg) (by omega) HLL.out).mono ?_
      rw [HDQ.out]
      rintro e wd ⟨rfl, hbd⟩
      have Hbd := Lib.hid (Holds.up (by have h := Hbe.out; exact zp1 : Holds _ (w.heap.size) 25 #[.int .i64 b.cool, .int .i64 b.gangs, .int .i64 b.r0, .int .i64 b.r1, .int .i64 b.r2, .int .i64 b.r3, .int .i64 b.r4, .int .i64 b.r5, .slice A bs.length c]) hbd)
      have Hod := Lib.hid (Holds.up (by have h := Hoe.out; exact zp1 : Holds _ (zn8) 25 #[.int .i64 b.cool, .int .i64 b.gangs, .int .i64 b.r0, .int .i64 b.r1, .int .i64 b.r2, .int .i64 b.r3, .int .i64 b.r4, .int .i64 b.r5, .slice A1n8 bs.length c1n8]) hbd)
      have Hxd := Lib.hid (Holds.up (by have h := Hxe.out; exact zp1 : Holds _ (zn9) 33 #[.int .i64 b.cool, .int .i64 b.gangs, .int .i64 b.r0, .int .i64 b.r1, .int .i64 b.r2, .int .i64 b.r3, .int .i64 b.r4, .int .i64 b.r5, .slice A2n9 bs.length c2n9]) hbd)
      have HSd : Hid (Below we.heap.size we wd) := Lib.hid (Below.trans zg (hbd.mono (by first | exact Nat.le_refl _ | omega | (simp; done) | (simp; omega))))
      have HBd : Hid (Below w.heap.size w wd) := Lib.hid (HBe.out.trans (HSd.out.mono hse))
      have hsd := HBd.out.size
      have hstd := HSd.out.size
      have HAd := Lib.hid (HAe.out.up HSd.out)
      have HQd := Lib.hid (HQe.out.up HSd.out)
      have HUd := Lib.hid (HUe.out.up HSd.out)
      have HMd := Lib.hid (HMe.out.up HSd.out)
      have HVd := Lib.hid (HVe.out.up HSd.out)
      clear hbd
      clear kx0 kx1 kx2 kx3 kx4 kx5 kx6 kx7 kx8 lt_x
      have ko0 : wd.cell? ⟨zn8, 0, none⟩ = some (.int .i64 b.cool) := Hod.out.cell 0
      have ko1 : wd.cell? ⟨zn8, 1, none⟩ = some (.int .i64 b.gangs) := Hod.out.cell 1
      have ko2 : wd.cell? ⟨zn8, 2, none⟩ = some (.int .i64 b.r0) := Hod.out.cell 2
      have ko3 : wd.cell? ⟨zn8, 3, none⟩ = some (.int .i64 b.r1) := Hod.out.cell 3
      have ko4 : wd.cell? ⟨zn8, 4, none⟩ = some (.int .i64 b.r2) := Hod.out.cell 4
      have ko5 : wd.cell? ⟨zn8, 5, none⟩ = some (.int .i64 b.r3) := Hod.out.cell 5
      have ko6 : wd.cell? ⟨zn8, 6, none⟩ = some (.int .i64 b.r4) := Hod.out.cell 6
      have ko7 : wd.cell? ⟨zn8, 7, none⟩ = some (.int .i64 b.r5) := Hod.out.cell 7
      have ko8 : wd.cell? ⟨zn8, 8, none⟩ = some (.slice A1n8 bs.length c1n8) := Hod.out.cell 8
      have lt_o : zn8 < wd.heap.size := Hod.out.lt
      as_aux_lemma =>
       go_wp2_with fail
       refine (Warmth_err b A1n8 c1n8 bs h8' A39 p.length p (by omega) HLL.out bin (by rw [HCE.out]; first | exact hE0 | exact hD0) _ (HUd.out.up zg) (HVd.out.up zg)).mono ?_
       rw [HCE.out]
       rintro e wt1 ⟨rfl, hbt1⟩
       have Hbt1 := Lib.hid (Holds.up (by have h := Hbd.out; exact zp1 : Holds _ (w.heap.size) 25 #[.int .i64 b.cool, .int .i64 b.gangs, .int .i64 b.r0, .int .i64 b.r1, .int .i64 b.r2, .int .i64 b.r3, .int .i64 b.r4, .int .i64 b.r5, .slice A bs.length c]) hbt1)
       have Hot1 := Lib.hid (Holds.up (by have h := Hod.out; exact zp1 : Holds _ (zn8) 25 #[.int .i64 b.cool, .int .i64 b.gangs, .int .i64 b.r0, .int .i64 b.r1, .int .i64 b.r2, .int .i64 b.r3, .int .i64 b.r4, .int .i64 b.r5, .slice A1n8 bs.length c1n8]) hbt1)
       have Hnt1 := Lib.hid (Holds.up (zp1 : Holds _ (wd.heap.size) 25 #[.int .i64 0, .int .i64 0, .int .i64 0, .int .i64 0, .int .i64 0, .int .i64 0, .int .i64 0, .int .i64 0, .slice none 0 0]) hbt1)
       have HSt1 : Hid (Below wd.heap.size wd wt1) := Lib.hid (Below.trans zg (hbt1.mono (by first | exact Nat.le_refl _ | omega | (simp; done) | (simp; omega))))
       have HBt1 : Hid (Below w.heap.size w wt1) := Lib.hid (HBd.out.trans (HSt1.out.mono hsd))
       have hst1 := HBt1.out.size
       have hstt1 := HSt1.out.size
       have HAt1 := Lib.hid (HAd.out.up HSt1.out)
       have HQt1 := Lib.hid (HQd.out.up HSt1.out)
       have HUt1 := Lib.hid (HUd.out.up HSt1.out)
       have HVt1 := Lib.hid (HVd.out.up HSt1.out)
       clear hbt1
       clear ko0 ko1 ko2 ko3 ko4 ko5 ko6 ko7 ko8 lt_o
       have ko0 : wt1.cell? ⟨zn8, 0, none⟩ = some (.int .i64 b.cool) := Hot1.out.cell 0
       have ko1 : wt1.cell? ⟨zn8, 1, none⟩ = some (.int .i64 b.gangs) := Hot1.out.cell 1
       have ko2 : wt1.cell? ⟨zn8, 2, none⟩ = some (.int .i64 b.r0) := Hot1.out.cell 2
       have ko3 : wt1.cell? ⟨zn8, 3, none⟩ = some (.int .i64 b.r1) := Hot1.out.cell 3
       have ko4 : wt1.cell? ⟨zn8, 4, none⟩ = some (.int .i64 b.r2) := Hot1.out.cell 4
       have ko5 : wt1.cell? ⟨zn8, 5, none⟩ = some (.int .i64 b.r3) := Hot1.out.cell 5
       have ko6 : wt1.cell? ⟨zn8, 6, none⟩ = some (.int .i64 b.r4) := Hot1.out.cell 6
       have ko7 : wt1.cell? ⟨zn8, 7, none⟩ = some (.int .i64 b.r5) := Hot1.out.cell 7
       have ko8 : wt1.cell? ⟨zn8, 8, none⟩ = some (.slice A1n8 bs.length c1n8) := Hot1.out.cell 8
       have lt_o : zn8 < wt1.heap.size := Hot1.out.lt
       go_wp2_with fail
       refine (Keeps_err b A1n8 c1n8 bs h8' A39 p.length p (by omega) HLL.out (by rw [HCE.out]; first | exact hE0 | exact hD0) _ (HUt1.out.up zg) (HVt1.out.up zg)).mono ?_
       rw [HCE.out]
       rintro e wt2 ⟨rfl, hbt2⟩
       have Hbt2 := Lib.hid (Holds.up (by have h := Hbt1.out; exact zp1 : Holds _ (w.heap.size) 25 #[.int .i64 b.cool, .int .i64 b.gangs, .int .i64 b.r0, .int .i64 b.r1, .int .i64 b.r2, .int .i64 b.r3, .int .i64 b.r4, .int .i64 b.r5, .slice A bs.length c]) hbt2)
       have Hot2 := Lib.hid (Holds.up (by have h := Hot1.out; exact zp1 : Holds _ (zn8) 25 #[.int .i64 b.cool, .int .i64 b.gangs, .int .i64 b.r0, .int .i64 b.r1, .int .i64 b.r2, .int .i64 b.r3, .int .i64 b.r4, .int .i64 b.r5, .slice A1n8 bs.length c1n8]) hbt2)
       have Hnt2 := Lib.hid (Holds.up (by have h := Hnt1.out; exact zp1 : Holds _ (wd.heap.size) 25 #[.int .i64 0, .int .i64 0, .int .i64 0, .int .i64 0, .int .i64 0, .int .i64 0, .int .i64 0, .int .i64 0, .slice none 0 0]) hbt2)
       have HSt2 : Hid (Below wt1.heap.size wt1 wt2) := Lib.hid (Below.trans zg (hbt2.mono (by first | exact Nat.le_refl _ | omega | (simp; done) | (simp; omega))))
       have HBt2 : Hid (Below w.heap.size w wt2) := Lib.hid (HBt1.out.trans (HSt2.out.mono hst1))
       have hst2 := HBt2.out.size
       have hstt2 := HSt2.out.size
       have HAt2 := Lib.hid (HAt1.out.up HSt2.out)
       have HQt2 := Lib.hid (HQt1.out.up HSt2.out)
       have HUt2 := Lib.hid (HUt1.out.up HSt2.out)
       have HVt2 := Lib.hid (HVt1.out.up HSt2.out)
       clear hbt2
       clear ko0 ko1 ko2 ko3 ko4 ko5 ko6 ko7 ko8 lt_o
       have ko0 : wt2.cell? ⟨zn8, 0, none⟩ = some (.int .i64 b.cool) := Hot2.out.cell 0
       have ko1 : wt2.cell? ⟨zn8, 1, none⟩ = some (.int .i64 b.gangs) := Hot2.out.cell 1
       have ko2 : wt2.cell? ⟨zn8, 2, none⟩ = some (.int .i64 b.r0) := Hot2.out.cell 2
       have ko3 : wt2.cell? ⟨zn8, 3, none⟩ = some (.int .i64 b.r1) := Hot2.out.cell 3
       have ko4 : wt2.cell? ⟨zn8, 4, none⟩ = some (.int .i64 b.r2) := Hot2.out.cell 4
       have ko5 : wt2.cell? ⟨zn8, 5, none⟩ = some (.int .i64 b.r3) := Hot2.out.cell 5
       have ko6 : wt2.cell? ⟨zn8, 6, none⟩ = some (.int .i64 b.r4) := Hot2.out.cell 6
       have ko7 : wt2.cell? ⟨zn8, 7, none⟩ = some (.int .i64 b.r5) := Hot2.out.cell 7
       have ko8 : wt2.cell? ⟨zn8, 8, none⟩ = some (.slice A1n8 bs.length c1n8) := Hot2.out.cell 8
       have lt_o : zn8 < wt2.heap.size := Hot2.out.lt
       go_wp2_with fail
       refine (Burns_err b A1n8 c1n8 bs h8' A39 p.length p (by omega) HLL.out (by rw [HCE.out]; first | exact hE0 | exact hD0) _ (HUt2.out.up zg) (HVt2.out.up zg)).mono ?_
       rw [HCE.out]
       rintro e wt3 ⟨rfl, hbt3⟩
       have Hbt3 := Lib.hid (Holds.up (by have h := Hbt2.out; exact zp1 : Holds _ (w.heap.size) 25 #[.int .i64 b.cool, .int .i64 b.gangs, .int .i64 b.r0, .int .i64 b.r1, .int .i64 b.r2, .int .i64 b.r3, .int .i64 b.r4, .int .i64 b.r5, .slice A bs.length c]) hbt3)
       have Hot3 := Lib.hid (Holds.up (by have h := Hot2.out; exact zp1 : Holds _ (zn8) 25 #[.int .i64 b.cool, .int .i64 b.gangs, .int .i64 b.r0, .int .i64 b.r1, .int .i64 b.r2, .int .i64 b.r3, .int .i64 b.r4, .int .i64 b.r5, .slice A1n8 bs.length c1n8]) hbt3)
       have Hnt3 := Lib.hid (Holds.up (by have h := Hnt2.out; exact zp1 : Holds _ (wd.heap.size) 25 #[.int .i64 0, .int .i64 0, .int .i64 0, .int .i64 0, .int .i64 0, .int .i64 0, .int .i64 0, .int .i64 0, .slice none 0 0]) hbt3)
       have HSt3 : Hid (Below wt2.heap.size wt2 wt3) := Lib.hid (Below.trans zg (hbt3.mono (by first | exact Nat.le_refl _ | omega | (simp; done) | (simp; omega))))
       have HBt3 : Hid (Below w.heap.size w wt3) := Lib.hid (HBt2.out.trans (HSt3.out.mono hst2))
       have hst3 := HBt3.out.size
       have hstt3 := HSt3.out.size
       have HAt3 := Lib.hid (HAt2.out.up HSt3.out)
       have HQt3 := Lib.hid (HQt2.out.up HSt3.out)
       have HUt3 := Lib.hid (HUt2.out.up HSt3.out)
       have HVt3 := Lib.hid (HVt2.out.up HSt3.out)
       clear hbt3
       clear ko0 ko1 ko2 ko3 ko4 ko5 ko6 ko7 ko8 lt_o
       have ko0 : wt3.cell? ⟨zn8, 0, none⟩ = some (.int .i64 b.cool) := Hot3.out.cell 0
       have ko1 : wt3.cell? ⟨zn8, 1, none⟩ = some (.int .i64 b.gangs) := Hot3.out.cell 1
       have ko2 : wt3.cell? ⟨zn8, 2, none⟩ = some (.int .i64 b.r0) := Hot3.out.cell 2
       have ko3 : wt3.cell? ⟨zn8, 3, none⟩ = some (.int .i64 b.r1) := Hot3.out.cell 3
       have ko4 : wt3.cell? ⟨zn8, 4, none⟩ = some (.int .i64 b.r2) := Hot3.out.cell 4
       have ko5 : wt3.cell? ⟨zn8, 5, none⟩ = some (.int .i64 b.r3) := Hot3.out.cell 5
       have ko6 : wt3.cell? ⟨zn8, 6, none⟩ = some (.int .i64 b.r4) := Hot3.out.cell 6
       have ko7 : wt3.cell? ⟨zn8, 7, none⟩ = some (.int .i64 b.r5) := Hot3.out.cell 7
       have ko8 : wt3.cell? ⟨zn8, 8, none⟩ = some (.slice A1n8 bs.length c1n8) := Hot3.out.cell 8
       have lt_o : zn8 < wt3.heap.size := Hot3.out.lt
       go_wp2_with fail
       refine (After_err b A1n8 c1n8 bs h8' A39 p.length p (by omega) HLL.out (by rw [HCE.out]; first | exact hE0 | exact hD0) _ (HUt3.out.up zg) (HVt3.out.up zg)).mono ?_
       rw [HCE.out]
       rintro e wt4 ⟨rfl, hbt4⟩
       have Hbt4 := Lib.hid (Holds.up (by have h := Hbt3.out; exact zp1 : Holds _ (w.heap.size) 25 #[.int .i64 b.cool, .int .i64 b.gangs, .int .i64 b.r0, .int .i64 b.r1, .int .i64 b.r2, .int .i64 b.r3, .int .i64 b.r4, .int .i64 b.r5, .slice A bs.length c]) hbt4)
       have Hot4 := Lib.hid (Holds.up (by have h := Hot3.out; exact zp1 : Holds _ (zn8) 25 #[.int .i64 b.cool, .int .i64 b.gangs, .int .i64 b.r0, .int .i64 b.r1, .int .i64 b.r2, .int .i64 b.r3, .int .i64 b.r4, .int .i64 b.r5, .slice A1n8 bs.length c1n8]) hbt4)
       have Hnt4 := Lib.hid (Holds.up (by have h := Hnt3.out; exact zp1 : Holds _ (wd.heap.size) 25 #[.int .i64 0, .int .i64 0, .int .i64 0, .int .i64 0, .int .i64 0, .int .i64 0, .int .i64 0, .int .i64 0, .slice none 0 0]) hbt4)
       have HSt4 : Hid (Below wt3.heap.size wt3 wt4) := Lib.hid (Below.trans zg (hbt4.mono (by first | exact Nat.le_refl _ | omega | (simp; done) | (simp; omega))))
       have HBt4 : Hid (Below w.heap.size w wt4) := Lib.hid (HBt3.out.trans (HSt4.out.mono hst3))
       have hst4 := HBt4.out.size
       have hstt4 := HSt4.out.size
       have HAt4 := Lib.hid (HAt3.out.up HSt4.out)
       have HQt4 := Lib.hid (HQt3.out.up HSt4.out)
       have HUt4 := Lib.hid (HUt3.out.up HSt4.out)
       have HVt4 := Lib.hid (HVt3.out.up HSt4.out)
       clear hbt4
       clear ko0 ko1 ko2 ko3 ko4 ko5 ko6 ko7 ko8 lt_o
       go_wp2_with fail
       refine (eqSpan_same none none 0 0 [] _ (RowAt.nil _ _ _ _) (RowAt.nil _ _ _ _) (by decide)).mono ?_
       rintro e wt5 ⟨rfl, hbt5⟩
       have Hbt5 := Lib.hid (Holds.up (by have h := Hbt4.out; exact zp1 : Holds _ (w.heap.size) 25 #[.int .i64 b.cool, .int .i64 b.gangs, .int .i64 b.r0, .int .i64 b.r1, .int .i64 b.r2, .int .i64 b.r3, .int .i64 b.r4, .int .i64 b.r5, .slice A bs.length c]) hbt5)
       have Hot5 := Lib.hid (Holds.up (by have h := Hot4.out; exact zp1 : Holds _ (zn8) 25 #[.int .i64 b.cool, .int .i64 b.gangs, .int .i64 b.r0, .int .i64 b.r1, .int .i64 b.r2, .int .i64 b.r3, .int .i64 b.r4, .int .i64 b.r5, .slice A1n8 bs.length c1n8]) hbt5)
       have Hnt5 := Lib.hid (Holds.up (by have h := Hnt4.out; exact zp1 : Holds _ (wd.heap.size) 25 #[.int .i64 0, .int .i64 0, .int .i64 0, .int .i64 0, .int .i64 0, .int .i64 0, .int .i64 0, .int .i64 0, .slice none 0 0]) hbt5)
       have Hct5 := Lib.hid (Holds.up (zp1 : Holds _ (wt4.heap.size) 25 #[.int .i64 0, .int .i64 0, .int .i64 0, .int .i64 0, .int .i64 0, .int .i64 0, .int .i64 0, .int .i64 0, .slice none 0 0]) hbt5)
       have HSt5 : Hid (Below wt4.heap.size wt4 wt5) := Lib.hid (Below.trans zg (hbt5.mono (by first | exact Nat.le_refl _ | omega | (simp; done) | (simp; omega))))
       have HBt5 : Hid (Below w.heap.size w wt5) := Lib.hid (HBt4.out.trans (HSt5.out.mono hst4))
       have hst5 := HBt5.out.size
       have hstt5 := HSt5.out.size
       have HAt5 := Lib.hid (HAt4.out.up HSt5.out)
       have HQt5 := Lib.hid (HQt4.out.up HSt5.out)
       have HUt5 := Lib.hid (HUt4.out.up HSt5.out)
       have HVt5 := Lib.hid (HVt4.out.up HSt5.out)
       clear hbt5
       have kc0 : wt5.cell? ⟨wt4.heap.size, 0, none⟩ = some (.int .i64 0) := Hct5.out.cell 0
       have kc1 : wt5.cell? ⟨wt4.heap.size, 1, none⟩ = some (.int .i64 0) := Hct5.out.cell 1
       have kc2 : wt5.cell? ⟨wt4.heap.size, 2, none⟩ = some (.int .i64 0) := Hct5.out.cell 2
       have kc3 : wt5.cell? ⟨wt4.heap.size, 3, none⟩ = some (.int .i64 0) := Hct5.out.cell 3
       have kc4 : wt5.cell? ⟨wt4.heap.size, 4, none⟩ = some (.int .i64 0) := Hct5.out.cell 4
       have kc5 : wt5.cell? ⟨wt4.heap.size, 5, none⟩ = some (.int .i64 0) := Hct5.out.cell 5
       have kc6 : wt5.cell? ⟨wt4.heap.size, 6, none⟩ = some (.int .i64 0) := Hct5.out.cell 6
       have kc7 : wt5.cell? ⟨wt4.heap.size, 7, none⟩ = some (.int .i64 0) := Hct5.out.cell 7
       have kc8 : wt5.cell? ⟨wt4.heap.size, 8, none⟩ = some (.slice none 0 0) := Hct5.out.cell 8
       have lt_c : wt4.heap.size < wt5.heap.size := Hct5.out.lt
       have kn0 : wt5.cell? ⟨wd.heap.size, 0, none⟩ = some (.int .i64 0) := Hnt5.out.cell 0
       have kn1 : wt5.cell? ⟨wd.heap.size, 1, none⟩ = some (.int .i64 0) := Hnt5.out.cell 1
       have kn2 : wt5.cell? ⟨wd.heap.size, 2, none⟩ = some (.int .i64 0) := Hnt5.out.cell 2
       have kn3 : wt5.cell? ⟨wd.heap.size, 3, none⟩ = some (.int .i64 0) := Hnt5.out.cell 3
       have kn4 : wt5.cell? ⟨wd.heap.size, 4, none⟩ = some (.int .i64 0) := Hnt5.out.cell 4
       have kn5 : wt5.cell? ⟨wd.heap.size, 5, none⟩ = some (.int .i64 0) := Hnt5.out.cell 5
       have kn6 : wt5.cell? ⟨wd.heap.size, 6, none⟩ = some (.int .i64 0) := Hnt5.out.cell 6
       have kn7 : wt5.cell? ⟨wd.heap.size, 7, none⟩ = some (.int .i64 0) := Hnt5.out.cell 7
       have kn8 : wt5.cell? ⟨wd.heap.size, 8, none⟩ = some (.slice none 0 0) := Hnt5.out.cell 8
       have lt_n : wd.heap.size < wt5.heap.size := Hnt5.out.lt
       go_wp2_with fail
       refine (same_same ⟨0, 0, 0, 0, 0, 0, 0, 0⟩ none none 0 0 [] _ (RowAt.nil _ _ _ _) (RowAt.nil _ _ _ _) (by decide)).mono ?_
       rintro e wt6 ⟨rfl, hbt6⟩
       have Hbt6 := Lib.hid (Holds.up (by have h := Hbt5.out; exact zp1 : Holds _ (w.heap.size) 25 #[.int .i64 b.cool, .int .i64 b.gangs, .int .i64 b.r0, .int .i64 b.r1, .int .i64 b.r2, .int .i64 b.r3, .int .i64 b.r4, .int .i64 b.r5, .slice A bs.length c]) hbt6)
       have Hot6 := Lib.hid (Holds.up (by have h := Hot5.out; exact zp1 : Holds _ (zn8) 25 #[.int .i64 b.cool, .int .i64 b.gangs, .int .i64 b.r0, .int .i64 b.r1, .int .i64 b.r2, .int .i64 b.r3, .int .i64 b.r4, .int .i64 b.r5, .slice A1n8 bs.length c1n8]) hbt6)
       have Hnt6 := Lib.hid (Holds.up (by have h := Hnt5.out; exact zp1 : Holds _ (wd.heap.size) 25 #[.int .i64 0, .int .i64 0, .int .i64 0, .int .i64 0, .int .i64 0, .int .i64 0, .int .i64 0, .int .i64 0, .slice none 0 0]) hbt6)
       have Hct6 := Lib.hid (Holds.up (by have h := Hct5.out; exact zp1 : Holds _ (wt4.heap.size) 25 #[.int .i64 0, .int .i64 0, .int .i64 0, .int .i64 0, .int .i64 0, .int .i64 0, .int .i64 0, .int .i64 0, .slice none 0 0]) hbt6)
       have HSt6 : Hid (Below wt5.heap.size wt5 wt6) := Lib.hid (Below.trans zg (hbt6.mono (by first | exact Nat.le_refl _ | omega | (simp; done) | (simp; omega))))
       have HBt6 : Hid (Below w.heap.size w wt6) := Lib.hid (HBt5.out.trans (HSt6.out.mono hst5))
       have hst6 := HBt6.out.size
       have hstt6 := HSt6.out.size
       have HAt6 := Lib.hid (HAt5.out.up HSt6.out)
       have HQt6 := Lib.hid (HQt5.out.up HSt6.out)
       have HUt6 := Lib.hid (HUt5.out.up HSt6.out)
       have HVt6 := Lib.hid (HVt5.out.up HSt6.out)
       clear hbt6
       clear kn0 kn1 kn2 kn3 kn4 kn5 kn6 kn7 kn8 lt_n kc0 kc1 kc2 kc3 kc4 kc5 kc6 kc7 kc8 lt_c
       have kc0 : wt6.cell? ⟨wt4.heap.size, 0, none⟩ = some (.int .i64 0) := Hct6.out.cell 0
       have kc1 : wt6.cell? ⟨wt4.heap.size, 1, none⟩ = some (.int .i64 0) := Hct6.out.cell 1
       have kc2 : wt6.cell? ⟨wt4.heap.size, 2, none⟩ = some (.int .i64 0) := Hct6.out.cell 2
       have kc3 : wt6.cell? ⟨wt4.heap.size, 3, none⟩ = some (.int .i64 0) := Hct6.out.cell 3
       have kc4 : wt6.cell? ⟨wt4.heap.size, 4, none⟩ = some (.int .i64 0) := Hct6.out.cell 4
       have kc5 : wt6.cell? ⟨wt4.heap.size, 5, none⟩ = some (.int .i64 0) := Hct6.out.cell 5
       have kc6 : wt6.cell? ⟨wt4.heap.size, 6, none⟩ = some (.int .i64 0) := Hct6.out.cell 6
       have kc7 : wt6.cell? ⟨wt4.heap.size, 7, none⟩ = some (.int .i64 0) := Hct6.out.cell 7
       have kc8 : wt6.cell? ⟨wt4.heap.size, 8, none⟩ = some (.slice none 0 0) := Hct6.out.cell 8
       have lt_c : wt4.heap.size < wt6.heap.size := Hct6.out.lt
       have hclr := run_clear_nil wt6 0
       have kb0 : wt6.cell? ⟨w.heap.size, 0, none⟩ = some (.int .i64 b.cool) := Hbt6.out.cell 0
       have kb1 : wt6.cell? ⟨w.heap.size, 1, none⟩ = some (.int .i64 b.gangs) := Hbt6.out.cell 1
       have kb2 : wt6.cell? ⟨w.heap.size, 2, none⟩ = some (.int .i64 b.r0) := Hbt6.out.cell 2
       have kb3 : wt6.cell? ⟨w.heap.size, 3, none⟩ = some (.int .i64 b.r1) := Hbt6.out.cell 3
       have kb4 : wt6.cell? ⟨w.heap.size, 4, none⟩ = some (.int .i64 b.r2) := Hbt6.out.cell 4
       have kb5 : wt6.cell? ⟨w.heap.size, 5, none⟩ = some (.int .i64 b.r3) := Hbt6.out.cell 5
       have kb6 : wt6.cell? ⟨w.heap.size, 6, none⟩ = some (.int .i64 b.r4) := Hbt6.out.cell 6
       have kb7 : wt6.cell? ⟨w.heap.size, 7, none⟩ = some (.int .i64 b.r5) := Hbt6.out.cell 7
       have kb8 : wt6.cell? ⟨w.heap.size, 8, none⟩ = some (.slice A bs.length c) := Hbt6.out.cell 8
       have lt_b : w.heap.size < wt6.heap.size := Hbt6.out.lt
       have ko0 : wt6.cell? ⟨zn8, 0, none⟩ = some (.int .i64 b.cool) := Hot6.out.cell 0
       have ko1 : wt6.cell? ⟨zn8, 1, none⟩ = some (.int .i64 b.gangs) := Hot6.out.cell 1
       have ko2 : wt6.cell? ⟨zn8, 2, none⟩ = some (.int .i64 b.r0) := Hot6.out.cell 2
       have ko3 : wt6.cell? ⟨zn8, 3, none⟩ = some (.int .i64 b.r1) := Hot6.out.cell 3
       have ko4 : wt6.cell? ⟨zn8, 4, none⟩ = some (.int .i64 b.r2) := Hot6.out.cell 4
       have ko5 : wt6.cell? ⟨zn8, 5, none⟩ = some (.int .i64 b.r3) := Hot6.out.cell 5
       have ko6 : wt6.cell? ⟨zn8, 6, none⟩ = some (.int .i64 b.r4) := Hot6.out.cell 6
       have ko7 : wt6.cell? ⟨zn8, 7, none⟩ = some (.int .i64 b.r5) := Hot6.out.cell 7
       have ko8 : wt6.cell? ⟨zn8, 8, none⟩ = some (.slice A1n8 bs.length c1n8) := Hot6.out.cell 8
       have lt_o : zn8 < wt6.heap.size := Hot6.out.lt
       go_wp2_with (at_builtin; (refine wpList_clear_run _ rfl _ _ rfl _ rfl hclr ?_))
       refine (same_same b A1n8 A c1n8 c bs _ (HUt6.out.up zg) (HAt6.out.up zg) h8').mono ?_
       rintro e wt8 ⟨rfl, hbt8⟩
       have Hbt8 := Lib.hid (Holds.up (by have h := Hbt6.out; exact zp1 : Holds _ (w.heap.size) 25 #[.int .i64 b.cool, .int .i64 b.gangs, .int .i64 b.r0, .int .i64 b.r1, .int .i64 b.r2, .int .i64 b.r3, .int .i64 b.r4, .int .i64 b.r5, .slice A bs.length c]) hbt8)
       have Hot8 := Lib.hid (Holds.up (by have h := Hot6.out; exact zp1 : Holds _ (zn8) 25 #[.int .i64 b.cool, .int .i64 b.gangs, .int .i64 b.r0, .int .i64 b.r1, .int .i64 b.r2, .int .i64 b.r3, .int .i64 b.r4, .int .i64 b.r5, .slice A1n8 bs.length c1n8]) hbt8)
       have HSt8 : Hid (Below wt6.heap.size wt6 wt8) := Lib.hid (Below.trans zg (hbt8.mono (by first | exact Nat.le_refl _ | omega | (simp; done) | (simp; omega))))
       have HBt8 : Hid (Below w.heap.size w wt8) := Lib.hid (HBt6.out.trans (HSt8.out.mono hst6))
       have hst8 := HBt8.out.size
       have hstt8 := HSt8.out.size
       have HAt8 := Lib.hid (HAt6.out.up HSt8.out)
       have HQt8 := Lib.hid (HQt6.out.up HSt8.out)
       have HUt8 := Lib.hid (HUt6.out.up HSt8.out)
       have HVt8 := Lib.hid (HVt6.out.up HSt8.out)
       clear hbt8
       clear kb0 kb1 kb2 kb3 kb4 kb5 kb6 kb7 kb8 lt_b ko0 ko1 ko2 ko3 ko4 ko5 ko6 ko7 ko8 lt_o
       go_wp2_with fail
       refine (EqRows_same A39 P p.length q p _ (HVt8.out.up zg) (HQt8.out.up zg) (by omega) HLL.out).mono ?_
       rintro e wt9 ⟨rfl, hbt9⟩
       have Hbt9 := Lib.hid (Holds.up (by have h := Hbt8.out; exact zp1 : Holds _ (w.heap.size) 25 #[.int .i64 b.cool, .int .i64 b.gangs, .int .i64 b.r0, .int .i64 b.r1, .int .i64 b.r2, .int .i64 b.r3, .int .i64 b.r4, .int .i64 b.r5, .slice A bs.length c]) hbt9)
       have Hot9 := Lib.hid (Holds.up (by have h := Hot8.out; exact zp1 : Holds _ (zn8) 25 #[.int .i64 b.cool, .int .i64 b.gangs, .int .i64 b.r0, .int .i64 b.r1, .int .i64 b.r2, .int .i64 b.r3, .int .i64 b.r4, .int .i64 b.r5, .slice A1n8 bs.length c1n8]) hbt9)
       have HSt9 : Hid (Below wt8.heap.size wt8 wt9) := Lib.hid (Below.trans zg (hbt9.mono (by first | exact Nat.le_refl _ | omega | (simp; done) | (simp; omega))))
       have HBt9 : Hid (Below w.heap.size w wt9) := Lib.hid (HBt8.out.trans (HSt9.out.mono hst8))
       have hst9 := HBt9.out.size
       have hstt9 := HSt9.out.size
       have HAt9 := Lib.hid (HAt8.out.up HSt9.out)
       have HQt9 := Lib.hid (HQt8.out.up HSt9.out)
       have HUt9 := Lib.hid (HUt8.out.up HSt9.out)
       have HVt9 := Lib.hid (HVt8.out.up HSt9.out)
       clear hbt9
       go_wp2_with fail
       refine (awake_any _).mono ?_
       rintro e w40 ⟨rfl, hb40⟩
       go_wp2_with fail
       go_ret
       exact ⟨rfl, HBt9.out.trans (hb40.mono hst9)⟩
    ·have hq : (E != 0) = true := by simpa using hE0
     have hq2 : (E == 0) = false := by simpa using hE0
     have HCE : Hid (checkErr b bs p = E) := Lib.hid (by unfold checkErr; rw [HEQ.out, if_pos hE0])
     go_wp2_with fail
     refine (refCheck_any b A2n9 c2n9 bs _ (HMa.out.up zg) h8').mono ?_
     rw [HEQ.out]
     rintro e we ⟨rfl, hbe⟩
     have Hbe := Lib.hid (Holds.up (by have h := Hba.out; exact zp1 : Holds _ (w.heap.size) 25 #[.int .i64 b.cool, .int .i64 b.gangs, .int .i64 b.r0, .int .i64 b.r1, .int .i64 b.r2, .int .i64 b.r3, .int .i64 b.r4, .int .i64 b.r5, .slice A bs.length c]) hbe)
     have Hoe := Lib.hid (Holds.up (by have h := Hoa.out; exact zp1 : Holds _ (zn8) 25 #[.int .i64 b.cool, .int .i64 b.gangs, .int .i64 b.r0, .int .i64 b.r1, .int .i64 b.r2, .int .i64 b.r3, .int .i64 b.r4, .int .i64 b.r5, .slice A1n8 bs.length c1n8]) hbe)
     have Hxe := Lib.hid (Holds.up (by have h := Hxa.out; exact zp1 : Holds _ (zn9) 33 #[.int .i64 b.cool, .int .i64 b.gangs, .int .i64 b.r0, .int .i64 b.r1, .int .i64 b.r2, .int .i64 b.r3, .int .i64 b.r4, .int .i64 b.r5, .slice A2n9 bs.length c2n9]) hbe)
     have HSe : Hid (Below wa.heap.size wa we) := Lib.hid (Below.trans zg (hbe.mono (by first | exact Nat.le_refl _ | omega | (simp; done) | (simp; omega))))
     have HBe : Hid (Below w.heap.size w we) := Lib.hid (HBa.out.trans (HSe.out.mono hsa))
     have hse := HBe.out.size
     have hste := HSe.out.size
     have HAe := Lib.hid (HAa.out.up HSe.out)
     have HQe := Lib.hid (HQa.out.up HSe.out)
     have HUe := Lib.hid (HUa.out.up HSe.out)
     have HMe := Lib.hid (HMa.out.up HSe.out)
     have HVe := Lib.hid (HVa.out.up HSe.out)
     clear hbe
     clear kx0 kx1 kx2 kx3 kx4 kx5 kx6 kx7 kx8 lt_x
     have ko0 : we.cell? ⟨zn8, 0, none⟩ = some (.int .i64 b.cool) := Hoe.out.cell 0
     have ko1 : we.cell? ⟨zn8, 1, none⟩ = some (.int .i64 b.gangs) := Hoe.out.cell 1
     have ko2 : we.cell? ⟨zn8, 2, none⟩ = some (.int .i64 b.r0) := Hoe.out.cell 2
     have ko3 : we.cell? ⟨zn8, 3, none⟩ = some (.int .i64 b.r1) := Hoe.out.cell 3
     have ko4 : we.cell? ⟨zn8, 4, none⟩ = some (.int .i64 b.r2) := Hoe.out.cell 4
     have ko5 : we.cell? ⟨zn8, 5, none⟩ = some (.int .i64 b.r3) := Hoe.out.cell 5
     have ko6 : we.cell? ⟨zn8, 6, none⟩ = some (.int .i64 b.r4) := Hoe.out.cell 6
     have ko7 : we.cell? ⟨zn8, 7, none⟩ = some (.int .i64 b.r5) := Hoe.out.cell 7
     have ko8 : we.cell? ⟨zn8, 8, none⟩ = some (.slice A1n8 bs.length c1n8) := Hoe.out.cell 8
     have lt_o : zn8 < we.heap.size := Hoe.out.lt
     as_aux_lemma =>
      go_wp2_with fail
      refine (Warmth_err b A1n8 c1n8 bs h8' A39 p.length p (by omega) HLL.out bin (by rw [HCE.out]; first | exact hE0 | exact hD0) _ (HUe.out.up zg) (HVe.out.up zg)).mono ?_
      rw [HCE.out]
      rintro e wt1 ⟨rfl, hbt1⟩
      have Hbt1 := Lib.hid (Holds.up (by have h := Hbe.out; exact zp1 : Holds _ (w.heap.size) 25 #[.int .i64 b.cool, .int .i64 b.gangs, .int .i64 b.r0, .int .i64 b.r1, .int .i64 b.r2, .int .i64 b.r3, .int .i64 b.r4, .int .i64 b.r5, .slice A bs.length c]) hbt1)
      have Hot1 := Lib.hid (Holds.up (by have h := Hoe.out; exact zp1 : Holds _ (zn8) 25 #[.int .i64 b.cool, .int .i64 b.gangs, .int .i64 b.r0, .int .i64 b.r1, .int .i64 b.r2, .int .i64 b.r3, .int .i64 b.r4, .int .i64 b.r5, .slice A1n8 bs.length c1n8]) hbt1)
      have Hnt1 := Lib.hid (Holds.up (zp1 : Holds _ (we.heap.size) 25 #[.int .i64 0, .int .i64 0, .int .i64 0, .int .i64 0, .int .i64 0, .int .i64 0, .int .i64 0, .int .i64 0, .slice none 0 0]) hbt1)
      have HSt1 : Hid (Below we.heap.size we wt1) := Lib.hid (Below.trans zg (hbt1.mono (by first | exact Nat.le_refl _ | omega | (simp; done) | (simp; omega))))
      have HBt1 : Hid (Below w.heap.size w wt1) := Lib.hid (HBe.out.trans (HSt1.out.mono hse))
      have hst1 := HBt1.out.size
      have hstt1 := HSt1.out.size
      have HAt1 := Lib.hid (HAe.out.up HSt1.out)
      have HQt1 := Lib.hid (HQe.out.up HSt1.out)
      have HUt1 := Lib.hid (HUe.out.up HSt1.out)
      have HVt1 := Lib.hid (HVe.out.up HSt1.out)
      clear hbt1
      clear ko0 ko1 ko2 ko3 ko4 ko5 ko6 ko7 ko8 lt_o
      have ko0 : wt1.cell? ⟨zn8, 0, none⟩ = some (.int .i64 b.cool) := Hot1.out.cell 0
      have ko1 : wt1.cell? ⟨zn8, 1, none⟩ = some (.int .i64 b.gangs) := Hot1.out.cell 1
      have ko2 : wt1.cell? ⟨zn8, 2, none⟩ = some (.int .i64 b.r0) := Hot1.out.cell 2
      have ko3 : wt1.cell? ⟨zn8, 3, none⟩ = some (.int .i64 b.r1) := Hot1.out.cell 3
      have ko4 : wt1.cell? ⟨zn8, 4, none⟩ = some (.int .i64 b.r2) := Hot1.out.cell 4
      have ko5 : wt1.cell? ⟨zn8, 5, none⟩ = some (.int .i64 b.r3) := Hot1.out.cell 5
      have ko6 : wt1.cell? ⟨zn8, 6, none⟩ = some (.int .i64 b.r4) := Hot1.out.cell 6
      have ko7 : wt1.cell? ⟨zn8, 7, none⟩ = some (.int .i64 b.r5) := Hot1.out.cell 7
      have ko8 : wt1.cell? ⟨zn8, 8, none⟩ = some (.slice A1n8 bs.length c1n8) := Hot1.out.cell 8
      have lt_o : zn8 < wt1.heap.size := Hot1.out.lt
      go_wp2_with fail
      refine (Keeps_err b A1n8 c1n8 bs h8' A39 p.length p (by omega) HLL.out (by rw [HCE.out]; first | exact hE0 | exact hD0) _ (HUt1.out.up zg) (HVt1.out.up zg)).mono ?_
      rw [HCE.out]
      rintro e wt2 ⟨rfl, hbt2⟩
      have Hbt2 := Lib.hid (Holds.up (by have h := Hbt1.out; exact zp1 : Holds _ (w.heap.size) 25 #[.int .i64 b.cool, .int .i64 b.gangs, .int .i64 b.r0, .int .i64 b.r1, .int .i64 b.r2, .int .i64 b.r3, .int .i64 b.r4, .int .i64 b.r5, .slice A bs.length c]) hbt2)
      have Hot2 := Lib.hid (Holds.up (by have h := Hot1.out; exact zp1 : Holds _ (zn8) 25 #[.int .i64 b.cool, .int .i64 b.gangs, .int .i64 b.r0, .int .i64 b.r1, .int .i64 b.r2, .int .i64 b.r3, .int .i64 b.r4, .int .i64 b.r5, .slice A1n8 bs.length c1n8]) hbt2)
      have Hnt2 := Lib.hid (Holds.up (by have h := Hnt1.out; exact zp1 : Holds _ (we.heap.size) 25 #[.int .i64 0, .int .i64 0, .int .i64 0, .int .i64 0, .int .i64 0, .int .i64 0, .int .i64 0, .int .i64 0, .slice none 0 0]) hbt2)
      have HSt2 : Hid (Below wt1.heap.size wt1 wt2) := Lib.hid (Below.trans zg (hbt2.mono (by first | exact Nat.le_refl _ | omega | (simp; done) | (simp; omega))))
      have HBt2 : Hid (Below w.heap.size w wt2) := Lib.hid (HBt1.out.trans (HSt2.out.mono hst1))
      have hst2 := HBt2.out.size
      have hstt2 := HSt2.out.size
      have HAt2 := Lib.hid (HAt1.out.up HSt2.out)
      have HQt2 := Lib.hid (HQt1.out.up HSt2.out)
      have HUt2 := Lib.hid (HUt1.out.up HSt2.out)
      have HVt2 := Lib.hid (HVt1.out.up HSt2.out)
      clear hbt2
      clear ko0 ko1 ko2 ko3 ko4 ko5 ko6 ko7 ko8 lt_o
      have ko0 : wt2.cell? ⟨zn8, 0, none⟩ = some (.int .i64 b.cool) := Hot2.out.cell 0
      have ko1 : wt2.cell? ⟨zn8, 1, none⟩ = some (.int .i64 b.gangs) := Hot2.out.cell 1
      have ko2 : wt2.cell? ⟨zn8, 2, none⟩ = some (.int .i64 b.r0) := Hot2.out.cell 2
      have ko3 : wt2.cell? ⟨zn8, 3, none⟩ = some (.int .i64 b.r1) := Hot2.out.cell 3
      have ko4 : wt2.cell? ⟨zn8, 4, none⟩ = some (.int .i64 b.r2) := Hot2.out.cell 4
      have ko5 : wt2.cell? ⟨zn8, 5, none⟩ = some (.int .i64 b.r3) := Hot2.out.cell 5
      have ko6 : wt2.cell? ⟨zn8, 6, none⟩ = some (.int .i64 b.r4) := Hot2.out.cell 6
      have ko7 : wt2.cell? ⟨zn8, 7, none⟩ = some (.int .i64 b.r5) := Hot2.out.cell 7
      have ko8 : wt2.cell? ⟨zn8, 8, none⟩ = some (.slice A1n8 bs.length c1n8) := Hot2.out.cell 8
      have lt_o : zn8 < wt2.heap.size := Hot2.out.lt
      go_wp2_with fail
      refine (Burns_err b A1n8 c1n8 bs h8' A39 p.length p (by omega) HLL.out (by rw [HCE.out]; first | exact hE0 | exact hD0) _ (HUt2.out.up zg) (HVt2.out.up zg)).mono ?_
      rw [HCE.out]
      rintro e wt3 ⟨rfl, hbt3⟩
      have Hbt3 := Lib.hid (Holds.up (by have h := Hbt2.out; exact zp1 : Holds _ (w.heap.size) 25 #[.int .i64 b.cool, .int .i64 b.gangs, .int .i64 b.r0, .int .i64 b.r1, .int .i64 b.r2, .int .i64 b.r3, .int .i64 b.r4, .int .i64 b.r5, .slice A bs.length c]) hbt3)
      have Hot3 := Lib.hid (Holds.up (by have h := Hot2.out; exact zp1 : Holds _ (zn8) 25 #[.int .i64 b.cool, .int .i64 b.gangs, .int .i64 b.r0, .int .i64 b.r1, .int .i64 b.r2, .int .i64 b.r3, .int .i64 b.r4, .int .i64 b.r5, .slice A1n8 bs.length c1n8]) hbt3)
      have Hnt3 := Lib.hid (Holds.up (by have h := Hnt2.out; exact zp1 : Holds _ (we.heap.size) 25 #[.int .i64 0, .int .i64 0, .int .i64 0, .int .i64 0, .int .i64 0, .int .i64 0, .int .i64 0, .int .i64 0, .slice none 0 0]) hbt3)
      have HSt3 : Hid (Below wt2.heap.size wt2 wt3) := Lib.hid (Below.trans zg (hbt3.mono (by first | exact Nat.le_refl _ | omega | (simp; done) | (simp; omega))))
      have HBt3 : Hid (Below w.heap.size w wt3) := Lib.hid (HBt2.out.trans (HSt3.out.mono hst2))
      have hst3 := HBt3.out.size
      have hstt3 := HSt3.out.size
      have HAt3 := Lib.hid (HAt2.out.up HSt3.out)
      have HQt3 := Lib.hid (HQt2.out.up HSt3.out)
      have HUt3 := Lib.hid (HUt2.out.up HSt3.out)
      have HVt3 := Lib.hid (HVt2.out.up HSt3.out)
      clear hbt3
      clear ko0 ko1 ko2 ko3 ko4 ko5 ko6 ko7 ko8 lt_o
      have ko0 : wt3.cell? ⟨zn8, 0, none⟩ = some (.int .i64 b.cool) := Hot3.out.cell 0
      have ko1 : wt3.cell? ⟨zn8, 1, none⟩ = some (.int .i64 b.gangs) := Hot3.out.cell 1
      have ko2 : wt3.cell? ⟨zn8, 2, none⟩ = some (.int .i64 b.r0) := Hot3.out.cell 2
      have ko3 : wt3.cell? ⟨zn8, 3, none⟩ = some (.int .i64 b.r1) := Hot3.out.cell 3
      have ko4 : wt3.cell? ⟨zn8, 4, none⟩ = some (.int .i64 b.r2) := Hot3.out.cell 4
      have ko5 : wt3.cell? ⟨zn8, 5, none⟩ = some (.int .i64 b.r3) := Hot3.out.cell 5
      have ko6 : wt3.cell? ⟨zn8, 6, none⟩ = some (.int .i64 b.r4) := Hot3.out.cell 6
      have ko7 : wt3.cell? ⟨zn8, 7, none⟩ = some (.int .i64 b.r5) := Hot3.out.cell 7
      have ko8 : wt3.cell? ⟨zn8, 8, none⟩ = some (.slice A1n8 bs.length c1n8) := Hot3.out.cell 8
      have lt_o : zn8 < wt3.heap.size := Hot3.out.lt
      go_wp2_with fail
      refine (After_err b A1n8 c1n8 bs h8' A39 p.length p (by omega) HLL.out (by rw [HCE.out]; first | exact hE0 | exact hD0) _ (HUt3.out.up zg) (HVt3.out.up zg)).mono ?_
      rw [HCE.out]
      rintro e wt4 ⟨rfl, hbt4⟩
      have Hbt4 := Lib.hid (Holds.up (by have h := Hbt3.out; exact zp1 : Holds _ (w.heap.size) 25 #[.int .i64 b.cool, .int .i64 b.gangs, .int .i64 b.r0, .int .i64 b.r1, .int .i64 b.r2, .int .i64 b.r3, .int .i64 b.r4, .int .i64 b.r5, .slice A bs.length c]) hbt4)
      have Hot4 := Lib.hid (Holds.up (by have h := Hot3.out; exact zp1 : Holds _ (zn8) 25 #[.int .i64 b.cool, .int .i64 b.gangs, .int .i64 b.r0, .int .i64 b.r1, .int .i64 b.r2, .int .i64 b.r3, .int .i64 b.r4, .int .i64 b.r5, .slice A1n8 bs.length c1n8]) hbt4)
      have Hnt4 := Lib.hid (Holds.up (by have h := Hnt3.out; exact zp1 : Holds _ (we.heap.size) 25 #[.int .i64 0, .int .i64 0, .int .i64 0, .int .i64 0, .int .i64 0, .int .i64 0, .int .i64 0, .int .i64 0, .slice none 0 0]) hbt4)
      have HSt4 : Hid (Below wt3.heap.size wt3 wt4) := Lib.hid (Below.trans zg (hbt4.mono (by first | exact Nat.le_refl _ | omega | (simp; done) | (simp; omega))))
      have HBt4 : Hid (Below w.heap.size w wt4) := Lib.hid (HBt3.out.trans (HSt4.out.mono hst3))
      have hst4 := HBt4.out.size
      have hstt4 := HSt4.out.size
      have HAt4 := Lib.hid (HAt3.out.up HSt4.out)
      have HQt4 := Lib.hid (HQt3.out.up HSt4.out)
      have HUt4 := Lib.hid (HUt3.out.up HSt4.out)
      have HVt4 := Lib.hid (HVt3.out.up HSt4.out)
      clear hbt4
      clear ko0 ko1 ko2 ko3 ko4 ko5 ko6 ko7 ko8 lt_o
      go_wp2_with fail
      refine (eqSpan_same none none 0 0 [] _ (RowAt.nil _ _ _ _) (RowAt.nil _ _ _ _) (by decide)).mono ?_
      rintro e wt5 ⟨rfl, hbt5⟩
      have Hbt5 := Lib.hid (Holds.up (by have h := Hbt4.out; exact zp1 : Holds _ (w.heap.size) 25 #[.int .i64 b.cool, .int .i64 b.gangs, .int .i64 b.r0, .int .i64 b.r1, .int .i64 b.r2, .int .i64 b.r3, .int .i64 b.r4, .int .i64 b.r5, .slice A bs.length c]) hbt5)
      have Hot5 := Lib.hid (Holds.up (by have h := Hot4.out; exact zp1 : Holds _ (zn8) 25 #[.int .i64 b.cool, .int .i64 b.gangs, .int .i64 b.r0, .int .i64 b.r1, .int .i64 b.r2, .int .i64 b.r3, .int .i64 b.r4, .int .i64 b.r5, .slice A1n8 bs.length c1n8]) hbt5)
      have Hnt5 := Lib.hid (Holds.up (by have h := Hnt4.out; exact zp1 : Holds _ (we.heap.size) 25 #[.int .i64 0, .int .i64 0, .int .i64 0, .int .i64 0, .int .i64 0, .int .i64 0, .int .i64 0, .int .i64 0, .slice none 0 0]) hbt5)
      have Hct5 := Lib.hid (Holds.up (zp1 : Holds _ (wt4.heap.size) 25 #[.int .i64 0, .int .i64 0, .int .i64 0, .int .i64 0, .int .i64 0, .int .i64 0, .int .i64 0, .int .i64 0, .slice none 0 0]) hbt5)
      have HSt5 : Hid (Below wt4.heap.size wt4 wt5) := Lib.hid (Below.trans zg (hbt5.mono (by first | exact Nat.le_refl _ | omega | (simp; done) | (simp; omega))))
      have HBt5 : Hid (Below w.heap.size w wt5) := Lib.hid (HBt4.out.trans (HSt5.out.mono hst4))
      have hst5 := HBt5.out.size
      have hstt5 := HSt5.out.size
      have HAt5 := Lib.hid (HAt4.out.up HSt5.out)
      have HQt5 := Lib.hid (HQt4.out.up HSt5.out)
      have HUt5 := Lib.hid (HUt4.out.up HSt5.out)
      have HVt5 := Lib.hid (HVt4.out.up HSt5.out)
      clear hbt5
      have kc0 : wt5.cell? ⟨wt4.heap.size, 0, none⟩ = some (.int .i64 0) := Hct5.out.cell 0
      have kc1 : wt5.cell? ⟨wt4.heap.size, 1, none⟩ = some (.int .i64 0) := Hct5.out.cell 1
      have kc2 : wt5.cell? ⟨wt4.heap.size, 2, none⟩ = some (.int .i64 0) := Hct5.out.cell 2
      have kc3 : wt5.cell? ⟨wt4.heap.size, 3, none⟩ = some (.int .i64 0) := Hct5.out.cell 3
      have kc4 : wt5.cell? ⟨wt4.heap.size, 4, none⟩ = some (.int .i64 0) := Hct5.out.cell 4
      have kc5 : wt5.cell? ⟨wt4.heap.size, 5, none⟩ = some (.int .i64 0) := Hct5.out.cell 5
      have kc6 : wt5.cell? ⟨wt4.heap.size, 6, none⟩ = some (.int .i64 0) := Hct5.out.cell 6
      have kc7 : wt5.cell? ⟨wt4.heap.size, 7, none⟩ = some (.int .i64 0) := Hct5.out.cell 7
      have kc8 : wt5.cell? ⟨wt4.heap.size, 8, none⟩ = some (.slice none 0 0) := Hct5.out.cell 8
      have lt_c : wt4.heap.size < wt5.heap.size := Hct5.out.lt
      have kn0 : wt5.cell? ⟨we.heap.size, 0, none⟩ = some (.int .i64 0) := Hnt5.out.cell 0
      have kn1 : wt5.cell? ⟨we.heap.size, 1, none⟩ = some (.int .i64 0) := Hnt5.out.cell 1
      have kn2 : wt5.cell? ⟨we.heap.size, 2, none⟩ = some (.int .i64 0) := Hnt5.out.cell 2
      have kn3 : wt5.cell? ⟨we.heap.size, 3, none⟩ = some (.int .i64 0) := Hnt5.out.cell 3
      have kn4 : wt5.cell? ⟨we.heap.size, 4, none⟩ = some (.int .i64 0) := Hnt5.out.cell 4
      have kn5 : wt5.cell? ⟨we.heap.size, 5, none⟩ = some (.int .i64 0) := Hnt5.out.cell 5
      have kn6 : wt5.cell? ⟨we.heap.size, 6, none⟩ = some (.int .i64 0) := Hnt5.out.cell 6
      have kn7 : wt5.cell? ⟨we.heap.size, 7, none⟩ = some (.int .i64 0) := Hnt5.out.cell 7
      have kn8 : wt5.cell? ⟨we.heap.size, 8, none⟩ = some (.slice none 0 0) := Hnt5.out.cell 8
      have lt_n : we.heap.size < wt5.heap.size := Hnt5.out.lt
      go_wp2_with fail
      refine (same_same ⟨0, 0, 0, 0, 0, 0, 0, 0⟩ none none 0 0 [] _ (RowAt.nil _ _ _ _) (RowAt.nil _ _ _ _) (by decide)).mono ?_
      rintro e wt6 ⟨rfl, hbt6⟩
      have Hbt6 := Lib.hid (Holds.up (by have h := Hbt5.out; exact zp1 : Holds _ (w.heap.size) 25 #[.int .i64 b.cool, .int .i64 b.gangs, .int .i64 b.r0, .int .i64 b.r1, .int .i64 b.r2, .int .i64 b.r3, .int .i64 b.r4, .int .i64 b.r5, .slice A bs.length c]) hbt6)
      have Hot6 := Lib.hid (Holds.up (by have h := Hot5.out; exact zp1 : Holds _ (zn8) 25 #[.int .i64 b.cool, .int .i64 b.gangs, .int .i64 b.r0, .int .i64 b.r1, .int .i64 b.r2, .int .i64 b.r3, .int .i64 b.r4, .int .i64 b.r5, .slice A1n8 bs.length c1n8]) hbt6)
      have Hnt6 := Lib.hid (Holds.up (by have h := Hnt5.out; exact zp1 : Holds _ (we.heap.size) 25 #[.int .i64 0, .int .i64 0, .int .i64 0, .int .i64 0, .int .i64 0, .int .i64 0, .int .i64 0, .int .i64 0, .slice none 0 0]) hbt6)
      have Hct6 := Lib.hid (Holds.up (by have h := Hct5.out; exact zp1 : Holds _ (wt4.heap.size) 25 #[.int .i64 0, .int .i64 0, .int .i64 0, .int .i64 0, .int .i64 0, .int .i64 0, .int .i64 0, .int .i64 0, .slice none 0 0]) hbt6)
      have HSt6 : Hid (Below wt5.heap.size wt5 wt6) := Lib.hid (Below.trans zg (hbt6.mono (by first | exact Nat.le_refl _ | omega | (simp; done) | (simp; omega))))
      have HBt6 : Hid (Below w.heap.size w wt6) := Lib.hid (HBt5.out.trans (HSt6.out.mono hst5))
      have hst6 := HBt6.out.size
      have hstt6 := HSt6.out.size
      have HAt6 := Lib.hid (HAt5.out.up HSt6.out)
      have HQt6 := Lib.hid (HQt5.out.up HSt6.out)
      have HUt6 := Lib.hid (HUt5.out.up HSt6.out)
      have HVt6 := Lib.hid (HVt5.out.up HSt6.out)
      clear hbt6
      clear kn0 kn1 kn2 kn3 kn4 kn5 kn6 kn7 kn8 lt_n kc0 kc1 kc2 kc3 kc4 kc5 kc6 kc7 kc8 lt_c
      have kc0 : wt6.cell? ⟨wt4.heap.size, 0, none⟩ = some (.int .i64 0) := Hct6.out.cell 0
      have kc1 : wt6.cell? ⟨wt4.heap.size, 1, none⟩ = some (.int .i64 0) := Hct6.out.cell 1
      have kc2 : wt6.cell? ⟨wt4.heap.size, 2, none⟩ = some (.int .i64 0) := Hct6.out.cell 2
      have kc3 : wt6.cell? ⟨wt4.heap.size, 3, none⟩ = some (.int .i64 0) := Hct6.out.cell 3
      have kc4 : wt6.cell? ⟨wt4.heap.size, 4, none⟩ = some (.int .i64 0) := Hct6.out.cell 4
      have kc5 : wt6.cell? ⟨wt4.heap.size, 5, none⟩ = some (.int .i64 0) := Hct6.out.cell 5
      have kc6 : wt6.cell? ⟨wt4.heap.size, 6, none⟩ = some (.int .i64 0) := Hct6.out.cell 6
      have kc7 : wt6.cell? ⟨wt4.heap.size, 7, none⟩ = some (.int .i64 0) := Hct6.out.cell 7
      have kc8 : wt6.cell? ⟨wt4.heap.size, 8, none⟩ = some (.slice none 0 0) := Hct6.out.cell 8
      have lt_c : wt4.heap.size < wt6.heap.size := Hct6.out.lt
      have hclr := run_clear_nil wt6 0
      have kb0 : wt6.cell? ⟨w.heap.size, 0, none⟩ = some (.int .i64 b.cool) := Hbt6.out.cell 0
      have kb1 : wt6.cell? ⟨w.heap.size, 1, none⟩ = some (.int .i64 b.gangs) := Hbt6.out.cell 1
      have kb2 : wt6.cell? ⟨w.heap.size, 2, none⟩ = some (.int .i64 b.r0) := Hbt6.out.cell 2
      have kb3 : wt6.cell? ⟨w.heap.size, 3, none⟩ = some (.int .i64 b.r1) := Hbt6.out.cell 3
      have kb4 : wt6.cell? ⟨w.heap.size, 4, none⟩ = some (.int .i64 b.r2) := Hbt6.out.cell 4
      have kb5 : wt6.cell? ⟨w.heap.size, 5, none⟩ = some (.int .i64 b.r3) := Hbt6.out.cell 5
      have kb6 : wt6.cell? ⟨w.heap.size, 6, none⟩ = some (.int .i64 b.r4) := Hbt6.out.cell 6
      have kb7 : wt6.cell? ⟨w.heap.size, 7, none⟩ = some (.int .i64 b.r5) := Hbt6.out.cell 7
      have kb8 : wt6.cell? ⟨w.heap.size, 8, none⟩ = some (.slice A bs.length c) := Hbt6.out.cell 8
      have lt_b : w.heap.size < wt6.heap.size := Hbt6.out.lt
      have ko0 : wt6.cell? ⟨zn8, 0, none⟩ = some (.int .i64 b.cool) := Hot6.out.cell 0
      have ko1 : wt6.cell? ⟨zn8, 1, none⟩ = some (.int .i64 b.gangs) := Hot6.out.cell 1
      have ko2 : wt6.cell? ⟨zn8, 2, none⟩ = some (.int .i64 b.r0) := Hot6.out.cell 2
      have ko3 : wt6.cell? ⟨zn8, 3, none⟩ = some (.int .i64 b.r1) := Hot6.out.cell 3
      have ko4 : wt6.cell? ⟨zn8, 4, none⟩ = some (.int .i64 b.r2) := Hot6.out.cell 4
      have ko5 : wt6.cell? ⟨zn8, 5, none⟩ = some (.int .i64 b.r3) := Hot6.out.cell 5
      have ko6 : wt6.cell? ⟨zn8, 6, none⟩ = some (.int .i64 b.r4) := Hot6.out.cell 6
      have ko7 : wt6.cell? ⟨zn8, 7, none⟩ = some (.int .i64 b.r5) := Hot6.out.cell 7
      have ko8 : wt6.cell? ⟨zn8, 8, none⟩ = some (.slice A1n8 bs.length c1n8) := Hot6.out.cell 8
      have lt_o : zn8 < wt6.heap.size := Hot6.out.lt
      go_wp2_with (at_builtin; (refine wpList_clear_run _ rfl _ _ rfl _ rfl hclr ?_))
      refine (same_same b A1n8 A c1n8 c bs _ (HUt6.out.up zg) (HAt6.out.up zg) h8').mono ?_
      rintro e wt8 ⟨rfl, hbt8⟩
      have Hbt8 := Lib.hid (Holds.up (by have h := Hbt6.out; exact zp1 : Holds _ (w.heap.size) 25 #[.int .i64 b.cool, .int .i64 b.gangs, .int .i64 b.r0, .int .i64 b.r1, .int .i64 b.r2, .int .i64 b.r3, .int .i64 b.r4, .int .i64 b.r5, .slice A bs.length c]) hbt8)
      have Hot8 := Lib.hid (Holds.up (by have h := Hot6.out; exact zp1 : Holds _ (zn8) 25 #[.int .i64 b.cool, .int .i64 b.gangs, .int .i64 b.r0, .int .i64 b.r1, .int .i64 b.r2, .int .i64 b.r3, .int .i64 b.r4, .int .i64 b.r5, .slice A1n8 bs.length c1n8]) hbt8)
      have HSt8 : Hid (Below wt6.heap.size wt6 wt8) := Lib.hid (Below.trans zg (hbt8.mono (by first | exact Nat.le_refl _ | omega | (simp; done) | (simp; omega))))
      have HBt8 : Hid (Below w.heap.size w wt8) := Lib.hid (HBt6.out.trans (HSt8.out.mono hst6))
      have hst8 := HBt8.out.size
      have hstt8 := HSt8.out.size
      have HAt8 := Lib.hid (HAt6.out.up HSt8.out)
      have HQt8 := Lib.hid (HQt6.out.up HSt8.out)
      have HUt8 := Lib.hid (HUt6.out.up HSt8.out)
      have HVt8 := Lib.hid (HVt6.out.up HSt8.out)
      clear hbt8
      clear kb0 kb1 kb2 kb3 kb4 kb5 kb6 kb7 kb8 lt_b ko0 ko1 ko2 ko3 ko4 ko5 ko6 ko7 ko8 lt_o
      go_wp2_with fail
      refine (EqRows_same A39 P p.length q p _ (HVt8.out.up zg) (HQt8.out.up zg) (by omega) HLL.out).mono ?_
      rintro e wt9 ⟨rfl, hbt9⟩
      have Hbt9 := Lib.hid (Holds.up (by have h := Hbt8.out; exact zp1 : Holds _ (w.heap.size) 25 #[.int .i64 b.cool, .int .i64 b.gangs, .int .i64 b.r0, .int .i64 b.r1, .int .i64 b.r2, .int .i64 b.r3, .int .i64 b.r4, .int .i64 b.r5, .slice A bs.length c]) hbt9)
      have Hot9 := Lib.hid (Holds.up (by have h := Hot8.out; exact zp1 : Holds _ (zn8) 25 #[.int .i64 b.cool, .int .i64 b.gangs, .int .i64 b.r0, .int .i64 b.r1, .int .i64 b.r2, .int .i64 b.r3, .int .i64 b.r4, .int .i64 b.r5, .slice A1n8 bs.length c1n8]) hbt9)
      have HSt9 : Hid (Below wt8.heap.size wt8 wt9) := Lib.hid (Below.trans zg (hbt9.mono (by first | exact Nat.le_refl _ | omega | (simp; done) | (simp; omega))))
      have HBt9 : Hid (Below w.heap.size w wt9) := Lib.hid (HBt8.out.trans (HSt9.out.mono hst8))
      have hst9 := HBt9.out.size
      have hstt9 := HSt9.out.size
      have HAt9 := Lib.hid (HAt8.out.up HSt9.out)
      have HQt9 := Lib.hid (HQt8.out.up HSt9.out)
      have HUt9 := Lib.hid (HUt8.out.up HSt9.out)
      have HVt9 := Lib.hid (HVt8.out.up HSt9.out)
      clear hbt9
      go_wp2_with fail
      refine (awake_any _).mono ?_
      rintro e w40 ⟨rfl, hb40⟩
      go_wp2_with fail
      go_ret
      exact ⟨rfl, HBt9.out.trans (hb40.mono hst9)⟩
end Go.Proofs.Ytokafjkinkafiaa
