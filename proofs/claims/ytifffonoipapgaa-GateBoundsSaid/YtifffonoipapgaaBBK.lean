import Derived.Shelf.Spec.SlicesInsert
import Derived.Deep.MidRow
import Derived.Test.YtifffonoipapgaaLAA
import Derived.Test.YtifffonoipapgaaBAC
import Derived.Test.YtifffonoipapgaaBBJ
set_option linter.unusedSimpArgs false
set_option linter.unusedVariables false
namespace Go.Proofs.Ytifffonoipapgaa
open Go.RowKit
theorem hands_flat {w : World} {B o : Nat} {hs : List Hf} (hc : ∀ k h, hs[k]? = some h → w.cell? ⟨B, o + k * 5, none⟩ = some (.int .i64 h.spot) ∧ w.cell? ⟨B, o + k * 5 + 1, none⟩ = some (.int .i64 h.g0) ∧
  w.cell? ⟨B, o + k * 5 + 2, none⟩ = some (.int .i64 h.g1) ∧ w.cell? ⟨B, o + k * 5 + 3, none⟩ = some (.int .i64 h.g2) ∧ w.cell? ⟨B, o + k * 5 + 4, none⟩ = some (.int .i64 h.g3)) :
  ∀ j v, (hs.flatMap Hf.cells)[j]? = some v → w.cell? ((⟨B, o, none⟩ : Addr).add j) = some v := by
 intro j v hj
 rw [Addr.add_mid]
 have hlt : j < hs.length * 5 := by rw [← flat_len Hf.cells (fun _ => rfl) hs]; exact (List.getElem?_eq_some_iff.1 hj).1
 have hk : j / 5 < hs.length := by omega
 have hx : hs[j / 5]? = some hs[j / 5] := List.getElem?_eq_getElem hk
 have h5 : j % 5 < 5 := Nat.mod_lt _ (by decide)
 have hq := flat_at Hf.cells (fun _ => rfl) hs (j / 5) (j % 5) _ hx h5
 rw [show j / 5 * 5 + j % 5 = j from by omega, hj] at hq
 obtain ⟨c0, c1, c2, c3, c4⟩ := hc _ _ hx
 have hjj : o + j = o + j / 5 * 5 + j % 5 := by omega
 rw [hjj]
 generalize j % 5 = i at hq h5
 match i, h5 with
 | 0, _ => exact c0.trans hq.symm
 | 1, _ => exact c1.trans hq.symm
 | 2, _ => exact c2.trans hq.symm
 | 3, _ => exact c3.trans hq.symm
 | 4, _ => exact c4.trans hq.symm
theorem hands_one (hs : List Hf) : ∀ v ∈ hs.flatMap Hf.cells, v.oneCell' = true := by
 intro v hv
 obtain ⟨x, _, hx⟩ := List.mem_flatMap.1 hv
 simp only [Hf.cells, List.mem_cons, List.not_mem_nil, or_false] at hx
 rcases hx with rfl | rfl | rfl | rfl | rfl <;> rfl

theorem taken_parts {h : Hf} (t : h.taken = true) : (0 ≤ h.spot ∧ h.spot ≤ 2) ∧ (0 ≤ h.g0 ∧ h.g0 ≤ 200) ∧ (0 ≤ h.g1 ∧ h.g1 ≤ 200) ∧ (0 ≤ h.g2 ∧ h.g2 ≤ 200) ∧ 0 ≤ h.g3 ∧ h.g3 ≤ 200 := by
 simpa [Hf.taken, within, and_assoc] using t
theorem enough_parts {h : Hf} (t : h.enough = true) : 10 ≤ h.g0 + h.g1 + h.g2 + h.g3 ∧ h.g0 + h.g1 + h.g2 + h.g3 ≤ 200 := by
 have t' := t
 simp only [Hf.enough, within, Hf.sum, Bool.and_eq_true, decide_eq_true_eq] at t'
 exact ⟨of_decide_eq_true t'.1, of_decide_eq_true t'.2⟩
theorem zp7 {p : Prop} (h : p := by (repeat first | (with_reducible first | assumption | apply Holds.set7 | apply Holds.set2 | apply Holds.set4 | apply Holds.putL | ((refine Holds.new' _ _ ?_); (simp; done)) | refine Holds.alloc ?_ _ | refine Holds.drew ?_ | refine Holds.far ?_ (by simp only [ne_eq]; omega) _) | rfl)) : p := h
set_option maxRecDepth 100000 in
set_option maxHeartbeats 4000000 in
theorem Lets_at (err miss full emp : Int) (G H : Option Addr) (d q : Nat) (gs : List Gr) (hs : List Hf) (i k : Nat) (y : Hf) (hh : hs[i]? = some y) (hk : k < 4) (gk : Int) (hgk : [y.g0, y.g1, y.g2, y.g3][k]? = some gk) (w : World) (hG : GradesAt w G gs) (hgl : gs.length ≤ 1000) (hA : HandsAt w H hs) (hl : hs.length ≤ 1000) (he : bothErr err miss gs full emp hs = 0) :
  Calls Try.prog 38 #[.agg #[.int .i64 err, .int .i64 miss, .slice G gs.length d], .agg #[.int .i64 full, .int .i64 emp, .slice H hs.length q], .int .i64 (i : Int), .int .i64 (k : Int)] w fun e w' =>
   e = .returned (.tuple (if none01 (letLo miss y.sum gk) (letHi miss y.sum gk) then #[.agg #[.int .i64 0, .int .i64 0], .int .i64 6] else #[.agg #[.int .i64 (letLo miss y.sum gk), .int .i64 (letHi miss y.sum gk)], .int .i64 0])) ∧ Below w.heap.size w w' := by
 have HH := Lib.hid hA
 have HG := Lib.hid hG
 obtain ⟨hg0, hc0⟩ := bothErr_zero he
 obtain ⟨_, r0, r1, m0, m1, _, _⟩ := gateErr_zero hg0
 obtain ⟨_, f0, f1, e0, e1, ht, hn⟩ := cartErr_zero hc0
 have hx := ht y (List.mem_of_getElem? hh)
 have hy := hn y (List.mem_of_getElem? hh)
 obtain ⟨⟨s0, s1⟩, ⟨a0, b0⟩, ⟨a1, b1⟩, ⟨a2, b2⟩, a3, b3⟩ := taken_parts hx
 obtain ⟨n0, n1⟩ := enough_parts hy
 have HE := Lib.hid he
 have HHH := Lib.hid hh
 have HGK := Lib.hid hgk
 have hwi : within (i : Int) 0 ((hs.length : Int) - 1) = true := by have := (List.getElem?_eq_some_iff.1 hh).1; simp [within]; omega
 have HWI := Lib.hid hwi
 have hil := (List.getElem?_eq_some_iff.1 hh).1
 have hkk : (decide (0 ≤ (k : Int)) && decide ((k : Int) ≤ 3)) = true := by simp; omega
 have HKK := Lib.hid hkk
 clear he hg0 hc0 ht hn hh hx hy hA hG hwi hgk hkk
 obtain ⟨lo, hlo⟩ : ∃ z, z = letLo miss y.sum gk := ⟨_, rfl⟩
 obtain ⟨up, hup⟩ : ∃ z, z = letHi miss y.sum gk := ⟨_, rfl⟩
 rw [← hlo, ← hup]
 have HLO := Lib.hid hlo
 have HUP := Lib.hid hup
 clear hlo hup
 obtain ⟨res, hres⟩ : ∃ z : Array Value, z = (if none01 lo up then #[.agg #[.int .i64 0, .int .i64 0], .int .i64 6] else #[.agg #[.int .i64 lo, .int .i64 up], .int .i64 0]) := ⟨_, rfl⟩
 rw [← hres]
 have HRES := Lib.hid hres
 clear hres
 go_enter Try.func38, Try.ntmps38
 go_wp2_with fail
 refine (arrive_at err miss full emp G H d q gs hs _ (HG.out.up zg) hgl (HH.out.up zg) hl HE.out).mono ?_
 rintro e w2 ⟨rfl, hb2⟩
 have Hg2 := Lib.hid (Holds.up (zp7 : Holds _ (w.heap.size) 24 #[.int .i64 err, .int .i64 miss, .slice G gs.length d]) hb2)
 have Hc2 := Lib.hid (Holds.up (zp7 : Holds _ (w.heap.size + 1) 27 #[.int .i64 full, .int .i64 emp, .slice H hs.length q]) hb2)
 have Hr2 := Lib.hid (Holds.up (zp7 : Holds _ (w.heap.size + 1 + 1) 60 #[.int .i64 0, .int .i64 0]) hb2)
 have HS2 : Hid (Below w.heap.size w w2) := Lib.hid (Below.trans zg (hb2.mono (by first | exact Nat.le_refl _ | omega | (simp; done) | (simp; omega))))
 have HB2 := HS2
 have hs2 := HB2.out.size
 have hst2 := HS2.out.size
 have HH2 := Lib.hid (HH.out.up HS2.out)
 clear hb2
 go_wp2_with fail
 refine (hasHandful_any full emp H hs.length q (i : Int) _ hl).mono ?_
 rw [HWI.out]
 rintro e w3 ⟨rfl, hb3⟩
 have Hg3 := Lib.hid (Holds.up (by have h := Hg2.out; exact zp7 : Holds _ (w.heap.size) 24 #[.int .i64 err, .int .i64 miss, .slice G gs.length d]) hb3)
 have Hc3 := Lib.hid (Holds.up (by have h := Hc2.out; exact zp7 : Holds _ (w.heap.size + 1) 27 #[.int .i64 full, .int .i64 emp, .slice H hs.length q]) hb3)
 have Hr3 := Lib.hid (Holds.up (by have h := Hr2.out; exact zp7 : Holds _ (w.heap.size + 1 + 1) 60 #[.int .i64 0, .int .i64 0]) hb3)
 have Ha3 := Lib.hid (Holds.up (zp7 : Holds _ (w2.heap.size) 147 #[.int .i64 full, .int .i64 emp, .slice H hs.length q, .int .i64 err, .int .i64 miss, .slice G gs.length d, .func (.func 99) #[.agg #[.int .i64 full, .int .i64 emp, .slice H hs.length q]] #[]]) hb3)
 have HS3 : Hid (Below w2.heap.size w2 w3) := Lib.hid (Below.trans zg (hb3.mono (by first | exact Nat.le_refl _ | omega | (simp; done) | (simp; omega))))
 have HB3 : Hid (Below w.heap.size w w3) := Lib.hid (HB2.out.trans (HS3.out.mono hs2))
 have hs3 := HB3.out.size
 have hst3 := HS3.out.size
 have HH3 := Lib.hid (HH2.out.up HS3.out)
 clear hb3
 go_wp2_with fail
 refine (isKind_any (k : Int) _).mono ?_
 rw [HKK.out]
 rintro e wv ⟨rfl, rfl⟩
 go_wp2_with fail
 obtain ⟨E, o, rfl, hcell⟩ := HH3.out (by omega)
 obtain ⟨q0, q1, q2, q3, q4⟩ := hcell i y HHH.out
 clear hcell
 rename_i Kc hKc
 have HSL := Lib.hid (show slotsOf [some 34, some 35, some 36, some 37, some 38, some 39, some 40, some 41, some 42, some 12, none] = [34, 35, 36, 37, 38, 39, 40, 41, 42, 12] from rfl)
 refine wp_region_partsG (by kernel_rfl) [some 34, some 35, some 36, some 37, some 38, some 39, some 40, some 41, some 42, some 12, none] (fun jq xq w' => match jq with
  | 0 => xq 34 = .agg #[.int .i64 full, .int .i64 emp, .slice (some ⟨E, o, none⟩) hs.length q, .int .i64 err, .int .i64 miss, .slice G gs.length d, .func (.func 99) #[.agg #[.int .i64 full, .int .i64 emp, .slice (some ⟨E, o, none⟩) hs.length q]] #[]]
  | 1 => xq 35 = .pointer (some ⟨w2.heap.size, 0, none⟩)
  | 2 => xq 36 = .pointer (some ⟨w2.heap.size, 2, none⟩)
  | 3 => xq 37 = .slice (some ⟨E, o, none⟩) hs.length q
  | 4 => xq 38 = .int .i64 (i : Int)
  | 5 => xq 39 = .pointer (some ⟨E, o + i * 5, none⟩)
  | 6 => xq 40 = .agg #[.int .i64 y.spot, .int .i64 y.g0, .int .i64 y.g1, .int .i64 y.g2, .int .i64 y.g3]
  | 7 => xq 41 = .int .i64 (k : Int)
  | 8 => xq 42 = .agg #[.int .i64 lo, .int .i64 up]
  | 9 => ∃ b, xq 12 = .pointer (some ⟨b, 0, none⟩) ∧ w3.heap.size ≤ b ∧ Holds w' b 60 #[.int .i64 0, .int .i64 0]
  | 10 => ∃ b, xq 12 = .pointer (some ⟨b, 0, none⟩) ∧ w3.heap.size ≤ b ∧ Holds w' b 60 #[.int .i64 lo, .int .i64 up]
  | _ => True) [[34], [35], [36], [37], [38], [39], [40], [41], [42], [12], [12]] [(10, 9)] (fun w' => Below w3.heap.size w3 w') (by kernel_rfl)  ?_ ?_ (fun w' w'' hb h => h.trans (hb.mono h.size)) (Below.refl _ _) ?_ ?_ ?_
 ·intro jq xq xq' wqq h hv
  match jq, h, hv with
  | 0, h, hv => show xq' 34 = .agg #[.int .i64 full, .int .i64 emp, .slice (some ⟨E, o, none⟩) hs.length q, .int .i64 err, .int .i64 miss, .slice G gs.length d, .func (.func 99) #[.agg #[.int .i64 full, .int .i64 emp, .slice (some ⟨E, o, none⟩) hs.length q]] #[]]; rw [← h 34 (by decide)]; exact hv
  | 1, h, hv => show xq' 35 = .pointer (some ⟨w2.heap.size, 0, none⟩); rw [← h 35 (by decide)]; exact hv
  | 2, h, hv => show xq' 36 = .pointer (some ⟨w2.heap.size, 2, none⟩); rw [← h 36 (by decide)]; exact hv
  | 3, h, hv => show xq' 37 = .slice (some ⟨E, o, none⟩) hs.length q; rw [← h 37 (by decide)]; exact hv
  | 4, h, hv => show xq' 38 = .int .i64 (i : Int); rw [← h 38 (by decide)]; exact hv
  | 5, h, hv => show xq' 39 = .pointer (some ⟨E, o + i * 5, none⟩); rw [← h 39 (by decide)]; exact hv
  | 6, h, hv => show xq' 40 = .agg #[.int .i64 y.spot, .int .i64 y.g0, .int .i64 y.g1, .int .i64 y.g2, .int .i64 y.g3]; rw [← h 40 (by decide)]; exact hv
  | 7, h, hv => show xq' 41 = .int .i64 (k : Int); rw [← h 41 (by decide)]; exact hv
  | 8, h, hv => show xq' 42 = .agg #[.int .i64 lo, .int .i64 up]; rw [← h 42 (by decide)]; exact hv
  | 9, h, hv => show ∃ b, xq' 12 = .pointer (some ⟨b, 0, none⟩) ∧ w3.heap.size ≤ b ∧ Holds wqq b 60 #[.int .i64 0, .int .i64 0]; rw [← h 12 (by decide)]; exact hv
  | 10, h, hv => show ∃ b, xq' 12 = .pointer (some ⟨b, 0, none⟩) ∧ w3.heap.size ≤ b ∧ Holds wqq b 60 #[.int .i64 lo, .int .i64 up]; rw [← h 12 (by decide)]; exact hv
  | _ + 11, _, _ => trivial
 ·intro jq xq wqq w' hb' hv
  match jq, hv with
  | 0, hv => exact hv
  | 1, hv => exact hv
  | 2, hv => exact hv
  | 3, hv => exact hv
  | 4, hv => exact hv
  | 5, hv => exact hv
  | 6, hv => exact hv
  | 7, hv => exact hv
  | 8, hv => exact hv
  | 9, ⟨b0, h0, h1, h2⟩ => exact ⟨b0, h0, h1, h2.up hb'⟩
  | 10, ⟨b0, h0, h1, h2⟩ => exact ⟨b0, h0, h1, h2.up hb'⟩
  | _ + 11, _ => trivial
 ·intro jq hj
  match jq, hj with
  | 0, hj => exact absurd hj (by decide)
  | 1, hj => exact absurd hj (by decide)
  | 2, hj => exact absurd hj (by decide)
  | 3, hj => exact absurd hj (by decide)
  | 4, hj => exact absurd hj (by decide)
  | 5, hj => exact absurd hj (by decide)
  | 6, hj => exact absurd hj (by decide)
  | 7, hj => exact absurd hj (by decide)
  | 8, hj => exact absurd hj (by decide)
  | 9, hj => exact absurd hj (by decide)
  | 10, hj => exact absurd hj (by decide)
  | _ + 11, _ => trivial
 ·refine ⟨?_, ?_, ?_, ?_, ?_, ?_, ?_, ?_, ?_, ?_, ?_, trivial⟩
  ·intro xq w4 hb4 hx K hK0
   have hK := fun v w' hb => hK0 v w' (.inl hb)
   clear hx hKc hK0
   obtain ⟨kqa0, kqa1, kqa2, kqa3, kqa4, kqa5, kqa6⟩ := (Ha3.out.up hb4).c7
   simp only [frameOf, fill, setSlot, sg, Nat.reduceBEq, if_true, if_false, Nat.reduceAdd, Nat.reduceEqDiff, HSL.out] at hK ⊢
   go_wp2_with (fail)
   exact hK _ _ (Below.refl _ _) rfl
  ·intro xq w4 hb4 hx K hK0
   have hK := fun v w' hb => hK0 v w' (.inl hb)
   clear hx hKc hK0
   simp only [frameOf, fill, setSlot, sg, Nat.reduceBEq, if_true, if_false, Nat.reduceAdd, Nat.reduceEqDiff, HSL.out] at hK ⊢
   go_wp2_with (fail)
   exact hK _ _ (Below.refl _ _) rfl
  ·intro xq w4 hb4 hx K hK0
   have hK := fun v w' hb => hK0 v w' (.inl hb)
   have e35 : xq 35 = .pointer (some ⟨w2.heap.size, 0, none⟩) := hx 1 (by rfl) (by rfl)
   clear hx hKc hK0
   simp only [frameOf, fill, setSlot, sg, Nat.reduceBEq, if_true, if_false, Nat.reduceAdd, Nat.reduceEqDiff, HSL.out] at hK ⊢
   simp only [e35] at hK ⊢
   clear e35
   go_wp2_with (fail)
   exact hK _ _ (Below.refl _ _) rfl
  ·intro xq w4 hb4 hx K hK0
   have hK := fun v w' hb => hK0 v w' (.inl hb)
   have e36 : xq 36 = .pointer (some ⟨w2.heap.size, 2, none⟩) := hx 2 (by rfl) (by rfl)
   clear hx hKc hK0
   obtain ⟨kqa0, kqa1, kqa2, kqa3, kqa4, kqa5, kqa6⟩ := (Ha3.out.up hb4).c7
   simp only [frameOf, fill, setSlot, sg, Nat.reduceBEq, if_true, if_false, Nat.reduceAdd, Nat.reduceEqDiff, HSL.out] at hK ⊢
   simp only [e36] at hK ⊢
   clear e36
   go_wp2_with (fail)
   exact hK _ _ (Below.refl _ _) rfl
  ·intro xq w4 hb4 hx K hK0
   have hK := fun v w' hb => hK0 v w' (.inl hb)
   clear hx hKc hK0
   simp only [frameOf, fill, setSlot, sg, Nat.reduceBEq, if_true, if_false, Nat.reduceAdd, Nat.reduceEqDiff, HSL.out] at hK ⊢
   go_wp2_with (fail)
   exact hK _ _ (Below.refl _ _) rfl
  ·intro xq w4 hb4 hx K hK0
   have hK := fun v w' hb => hK0 v w' (.inl hb)
   have e37 : xq 37 = .slice (some ⟨E, o, none⟩) hs.length q := hx 3 (by rfl) (by rfl)
   have e38 : xq 38 = .int .i64 (i : Int) := hx 4 (by rfl) (by rfl)
   clear hx hKc hK0
   have hil' : (i : Int) < hs.length := by omega
   simp only [frameOf, fill, setSlot, sg, Nat.reduceBEq, if_true, if_false, Nat.reduceAdd, Nat.reduceEqDiff, HSL.out] at hK ⊢
   simp only [e37, e38] at hK ⊢
   clear e37 e38
   go_wp2_with (fail)
   exact hK _ _ (Below.refl _ _) rfl
  ·intro xq w4 hb4 hx K hK0
   have hK := fun v w' hb => hK0 v w' (.inl hb)
   have e39 : xq 39 = .pointer (some ⟨E, o + i * 5, none⟩) := hx 5 (by rfl) (by rfl)
   clear hx hKc hK0
   have ke0 : w4.cell? ⟨E, o + i * 5, none⟩ = some (.int .i64 y.spot) := up_cell hb4 q0
   have ke1 : w4.cell? ⟨E, o + i * 5 + 1, none⟩ = some (.int .i64 y.g0) := up_cell hb4 q1
   have ke2 : w4.cell? ⟨E, o + i * 5 + 2, none⟩ = some (.int .i64 y.g1) := up_cell hb4 q2
   have ke3 : w4.cell? ⟨E, o + i * 5 + 3, none⟩ = some (.int .i64 y.g2) := up_cell hb4 q3
   have ke4 : w4.cell? ⟨E, o + i * 5 + 4, none⟩ = some (.int .i64 y.g3) := up_cell hb4 q4
   simp only [frameOf, fill, setSlot, sg, Nat.reduceBEq, if_true, if_false, Nat.reduceAdd, Nat.reduceEqDiff, HSL.out] at hK ⊢
   simp only [e39] at hK ⊢
   clear e39
   go_wp2_with (fail)
   exact hK _ _ (Below.refl _ _) rfl
  ·intro xq w4 hb4 hx K hK0
   have hK := fun v w' hb => hK0 v w' (.inl hb)
   clear hx hKc hK0
   simp only [frameOf, fill, setSlot, sg, Nat.reduceBEq, if_true, if_false, Nat.reduceAdd, Nat.reduceEqDiff, HSL.out] at hK ⊢
   go_wp2_with (fail)
   exact hK _ _ (Below.refl _ _) rfl
  ·intro xq w4 hb4 hx K hK0
   have hK := fun v w' hb => hK0 v w' (.inl hb)
   have e34 : xq 34 = .agg #[.int .i64 full, .int .i64 emp, .slice (some ⟨E, o, none⟩) hs.length q, .int .i64 err, .int .i64 miss, .slice G gs.length d, .func (.func 99) #[.agg #[.int .i64 full, .int .i64 emp, .slice (some ⟨E, o, none⟩) hs.length q]] #[]] := hx 0 (by rfl) (by rfl)
   have e40 : xq 40 = .agg #[.int .i64 y.spot, .int .i64 y.g0, .int .i64 y.g1, .int .i64 y.g2, .int .i64 y.g3] := hx 6 (by rfl) (by rfl)
   have e41 : xq 41 = .int .i64 (k : Int) := hx 7 (by rfl) (by rfl)
   clear hx hKc hK0
   simp only [frameOf, fill, setSlot, sg, Nat.reduceBEq, if_true, if_false, Nat.reduceAdd, Nat.reduceEqDiff, HSL.out] at hK ⊢
   simp only [e34, e40, e41] at hK ⊢
   clear e34 e40 e41
   go_wp2_with (go_at_call 101; refine (lets_any full emp err miss y.spot y.g0 y.g1 y.g2 y.g3 gk _ _ _ k _ m0 m1 a0 b0 a1 b1 a2 b2 a3 b3 n0 n1 hk HGK.out).mono ?_; rintro e w2_ ⟨rfl, hb_⟩)
   exact hK _ _ hb_ (by rw [HLO.out, HUP.out]; rfl)
  ·intro xq w4 hb4 hx K hK0
   have hK := fun v w' hb => hK0 v w' (.inl hb)
   clear hx hKc hK0
   simp only [frameOf, fill, setSlot, sg, Nat.reduceBEq, if_true, if_false, Nat.reduceAdd, Nat.reduceEqDiff, HSL.out] at hK ⊢
   go_wp2_with (fail)
   exact hK _ _ ((Below.refl _ _).alloc (Nat.le_refl _) _) ⟨_, rfl, hb4.size, Holds.new _ _ _⟩
  ·intro xq w4 hb4 hx K hK0
   have hK := fun v w' hb => hK0 v w' (.inr hb)
   have e42 : xq 42 = .agg #[.int .i64 lo, .int .i64 up] := hx 8 (by rfl) (by rfl)
   obtain ⟨b12, e12, f12_0, f12_1⟩ := hx 9 (by rfl) (by rfl)
   clear hx hKc hK0
   obtain ⟨c0, c1⟩ := f12_1.c2
   obtain ⟨z0, z1⟩ := f12_1.f2
   simp only [frameOf, fill, setSlot, sg, Nat.reduceBEq, if_true, if_false, Nat.reduceAdd, Nat.reduceEqDiff, HSL.out] at hK ⊢
   have E42 := Lib.hid e42
   have E12 := Lib.hid e12
   simp only [e42, e12] at hK ⊢
   clear e42 e12
   go_wp2_with (fail)
   refine hK undef _ ⟨zg, ?_⟩ ⟨_, rfl, f12_0, Holds.set2 _ _ f12_1⟩
   intro jq xq hd hne hv
   match jq, hd, hne, hv with
   | 0, _, _, hv => exact hv
   | 1, _, _, hv => exact hv
   | 2, _, _, hv => exact hv
   | 3, _, _, hv => exact hv
   | 4, _, _, hv => exact hv
   | 5, _, _, hv => exact hv
   | 6, _, _, hv => exact hv
   | 7, _, _, hv => exact hv
   | 8, _, _, hv => exact hv
   | 9, hd, _, _ => exact absurd hd (by decide)
   | 10, _, hne, _ => exact absurd rfl hne
   | _ + 11, _, _, _ => trivial
 ·intro xq w4 hb4 hx
  have e34 : xq 34 = .agg #[.int .i64 full, .int .i64 emp, .slice (some ⟨E, o, none⟩) hs.length q, .int .i64 err, .int .i64 miss, .slice G gs.length d, .func (.func 99) #[.agg #[.int .i64 full, .int .i64 emp, .slice (some ⟨E, o, none⟩) hs.length q]] #[]] := hx 0 (by decide)
  have e35 : xq 35 = .pointer (some ⟨w2.heap.size, 0, none⟩) := hx 1 (by decide)
  have e36 : xq 36 = .pointer (some ⟨w2.heap.size, 2, none⟩) := hx 2 (by decide)
  have e37 : xq 37 = .slice (some ⟨E, o, none⟩) hs.length q := hx 3 (by decide)
  have e38 : xq 38 = .int .i64 (i : Int) := hx 4 (by decide)
  have e39 : xq 39 = .pointer (some ⟨E, o + i * 5, none⟩) := hx 5 (by decide)
  have e40 : xq 40 = .agg #[.int .i64 y.spot, .int .i64 y.g0, .int .i64 y.g1, .int .i64 y.g2, .int .i64 y.g3] := hx 6 (by decide)
  have e41 : xq 41 = .int .i64 (k : Int) := hx 7 (by decide)
  have e42 : xq 42 = .agg #[.int .i64 lo, .int .i64 up] := hx 8 (by decide)
  obtain ⟨bn10, fn10_0, fn10_1, fn10_2⟩ := hx 10 (by decide)
  clear hx
  simp only [frameOf, fill, setSlot, sg, Nat.reduceBEq, if_true, if_false, Nat.reduceAdd, Nat.reduceEqDiff, HSL.out]
  simp only [e34, e35, e36, e37, e38, e39, e40, e41, e42, fn10_0]
  clear e34 e35 e36 e37 e38 e39 e40 e41 e42 fn10_0
  refine hKc _ _ ?_
  have H4 := Lib.hid hb4
  have hS := Lib.hid fn10_2
  have hbS := fn10_1
  have Hg4 := Lib.hid (Hg3.out.up hb4)
  have Hc4 := Lib.hid (Hc3.out.up hb4)
  have Hr4 := Lib.hid (Hr3.out.up hb4)
  clear hb4 fn10_1 fn10_2
  have hs4 := H4.out.size
  go_wp2_with fail
  rename_i Kc hKc
  have HSL := Lib.hid (show slotsOf [some 43, some 44, some 45] = [43, 44, 45] from rfl)
  refine wp_region_partsG (by kernel_rfl) [some 43, some 44, some 45] (fun jq xq w' => match jq with
   | 0 => xq 43 = .agg #[.int .i64 lo, .int .i64 up]
   | 1 => xq 44 = .agg #[.int .i64 1, .int .i64 0]
   | 2 => xq 45 = .bool (none01 lo up)
   | _ => True) [[43], [44], [45]] [] (fun w' => Below w4.heap.size w4 w') (by kernel_rfl)  ?_ ?_ (fun w' w'' hb h => h.trans (hb.mono h.size)) (Below.refl _ _) ?_ ?_ ?_
  ·intro jq xq xq' wqq h hv
   match jq, h, hv with
   | 0, h, hv => show xq' 43 = .agg #[.int .i64 lo, .int .i64 up]; rw [← h 43 (by decide)]; exact hv
   | 1, h, hv => show xq' 44 = .agg #[.int .i64 1, .int .i64 0]; rw [← h 44 (by decide)]; exact hv
   | 2, h, hv => show xq' 45 = .bool (none01 lo up); rw [← h 45 (by decide)]; exact hv
   | _ + 3, _, _ => trivial
  ·intro jq xq wqq w' hb' hv
   match jq, hv with
   | 0, hv => exact hv
   | 1, hv => exact hv
   | 2, hv => exact hv
   | _ + 3, _ => trivial
  ·intro jq hj
   match jq, hj with
   | 0, hj => exact absurd hj (by decide)
   | 1, hj => exact absurd hj (by decide)
   | 2, hj => exact absurd hj (by decide)
   | _ + 3, _ => trivial
  ·refine ⟨?_, ?_, ?_, trivial⟩
   ·intro xq w5 hb5 hx K hK0
    have hK := fun v w' hb => hK0 v w' (.inl hb)
    clear hx hKc hK0
    obtain ⟨ks0, ks1⟩ := (hS.out.up hb5).c2
    simp only [frameOf, fill, setSlot, sg, Nat.reduceBEq, if_true, if_false, Nat.reduceAdd, Nat.reduceEqDiff, HSL.out] at hK ⊢
    go_wp2_with (fail)
    exact hK _ _ (Below.refl _ _) rfl
   ·intro xq w5 hb5 hx K hK0
    have hK := fun v w' hb => hK0 v w' (.inl hb)
    clear hx hKc hK0
    simp only [frameOf, fill, setSlot, sg, Nat.reduceBEq, if_true, if_false, Nat.reduceAdd, Nat.reduceEqDiff, HSL.out] at hK ⊢
    go_wp2_with (go_at_call 102; refine (nothing_any _).mono ?_; rintro e w2_ ⟨rfl, hb_⟩)
    exact hK _ _ hb_ rfl
   ·intro xq w5 hb5 hx K hK0
    have hK := fun v w' hb => hK0 v w' (.inl hb)
    have e43 : xq 43 = .agg #[.int .i64 lo, .int .i64 up] := hx 0 (by rfl) (by rfl)
    have e44 : xq 44 = .agg #[.int .i64 1, .int .i64 0] := hx 1 (by rfl) (by rfl)
    clear hx hKc hK0
    simp only [frameOf, fill, setSlot, sg, Nat.reduceBEq, if_true, if_false, Nat.reduceAdd, Nat.reduceEqDiff, HSL.out] at hK ⊢
    simp only [e43, e44] at hK ⊢
    clear e43 e44
    go_wp2_with (refine wpList_eql rfl rfl rfl rfl (by kernel_rfl) _ (eqlW_none _ _ _) ?_)
    exact hK _ _ (Below.refl _ _) rfl
  ·intro xq w5 hb5 hx
   have e43 : xq 43 = .agg #[.int .i64 lo, .int .i64 up] := hx 0 (by decide)
   have e44 : xq 44 = .agg #[.int .i64 1, .int .i64 0] := hx 1 (by decide)
   have e45 : xq 45 = .bool (none01 lo up) := hx 2 (by decide)
   clear hx
   simp only [frameOf, fill, setSlot, sg, Nat.reduceBEq, if_true, if_false, Nat.reduceAdd, Nat.reduceEqDiff, HSL.out]
   simp only [e43, e44, e45]
   clear e43 e44 e45
   refine hKc _ _ ?_
   have H5 := Lib.hid hb5
   have hS5 := Lib.hid (hS.out.up hb5)
   have lt_s := hS5.out.lt
   have Hg5 := Lib.hid (Hg4.out.up hb5)
   have Hc5 := Lib.hid (Hc4.out.up hb5)
   have Hr5 := Lib.hid (Hr4.out.up hb5)
   clear hb5
   have hs5 := H5.out.size
   obtain ⟨ks0, ks1⟩ := hS5.out.c2
   obtain ⟨kr0, kr1⟩ := Hr5.out.c2
   obtain ⟨zr0, zr1⟩ := Hr5.out.f2
   have lt_r : w.heap.size + 1 + 1 < w5.heap.size := Hr5.out.lt
   have hrl := Hr5.out
   cases hq : none01 lo up with
   | true =>
    have HQ := Lib.hid hq
    clear hq
    go_wp2_with fail
    refine ret_cell2 (t := 60) rfl rfl rfl (Holds.set2 _ _ hrl) Try.underlying60 rfl (by kernel_rfl) rfl ⟨by rw [HRES.out, HQ.out]; rfl, ?_⟩
    exact (HB3.out.trans ((H4.out.trans (H5.out.mono hs4)).mono hs3)).trans zg
   | false =>
    have HQ := Lib.hid hq
    clear hq
    go_wp2_with fail
    refine ret_cell2 (t := 60) rfl rfl rfl (Holds.set2 _ _ hrl) Try.underlying60 rfl (by kernel_rfl) rfl ⟨by rw [HRES.out, HQ.out]; rfl, ?_⟩
    exact (HB3.out.trans ((H4.out.trans (H5.out.mono hs4)).mono hs3)).trans zg
end Go.Proofs.Ytifffonoipapgaa
