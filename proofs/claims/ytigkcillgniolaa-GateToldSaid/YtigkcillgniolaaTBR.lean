
import Derived.Test.YtigkcillgniolaaTAA
import Derived.Test.YtigkcillgniolaaTAC
import Derived.Test.YtigkcillgniolaaTBF
import Derived.Test.YtigkcillgniolaaTBQ
set_option linter.unusedSimpArgs false
set_option linter.unusedVariables false
namespace Go.Proofs.Ytigkcillgniolaa
open Go.RowKit
theorem mix_at {m0 m1 m2 m3 : Int} (h : Mix4 m0 m1 m2 m3) (k : Nat) : 0 ≤ gat m0 m1 m2 m3 k ∧ gat m0 m1 m2 m3 k ≤ 40 := by
 obtain ⟨p0, p1, p2, p3, hs⟩ := h
 unfold gat
 split <;> omega
theorem cell4_at {w : World} {B : Nat} {T : TypeId} {g0 g1 g2 g3 : Int} (h : Holds w B T #[.int .i64 g0, .int .i64 g1, .int .i64 g2, .int .i64 g3]) {k : Nat} (hk : k < 4) : w.cell? ⟨B, k, none⟩ = some (.int .i64 (gat g0 g1 g2 g3 k)) := by
 rw [h.cell]
 match k, hk with
 | 0, _ => rfl
 | 1, _ => rfl
 | 2, _ => rfl
 | 3, _ => rfl
theorem bytes_of {w : World} {a : Option Addr} {len cap : Nat} {zs : List Int}
  (h : (a = none ∧ len = 0 ∧ cap = 0 ∧ zs = []) ∨ ∃ x, a = some x ∧ len ≤ cap ∧ cap ≤ maxLen ∧ zs.length = cap ∧ (∀ i, i < zs.length → w.cell? (x.add i) = some (.int .u8 (zs.getD i 0))) ∧ ∀ n ∈ zs, (Lit.int .u8 n).wf = true) : BytesAt w a len ∧ len ≤ 9223372036854775807 := by
 rcases h with ⟨rfl, rfl, rfl, rfl⟩ | ⟨x, rfl, hl, hm, hz, hc, _⟩
 ·exact ⟨fun h => absurd h (Nat.lt_irrefl 0), by decide⟩
 ·refine ⟨fun hp => ?_, by unfold maxLen at hm; omega⟩
  have h0 := hc 0 (by omega)
  obtain ⟨B, o, s⟩ := x
  have hs : s = none := by
   cases s with
   | none => rfl
   | some s =>
    simp only [Addr.add, if_true, World.cell?] at h0
    split at h0 <;> simp at h0
  subst hs
  refine ⟨B, o, rfl, fun k hk => ⟨zs.getD k 0, ?_⟩⟩
  have hk' := hc k (by omega)
  rcases Nat.eq_zero_or_pos k with rfl | hkp
  ·simpa [Addr.add] using hk'
  ·simpa [Addr.add, Nat.ne_of_gt hkp] using hk'
theorem u8_in {a : Int} (h : (Lit.int .u8 a).wf = true) : 0 ≤ a ∧ a ≤ 255 := by
 have h1 : IntKind.u8.min = 0 := by decide
 have h2 : IntKind.u8.max = 255 := by decide
 simp only [Lit.wf, h1, h2, Bool.and_eq_true, decide_eq_true_eq] at h
 exact h
def fitK (miss n g m : Int) : Bool := decide (m * n - 40 * g ≤ 40 * miss) && decide (40 * g - m * n ≤ 40 * miss)
def fitTo (miss n : Int) (g m : Nat → Int) : Nat → Bool
 | 0 => true
 | k + 1 => fitTo miss n g m k && fitK miss n (g k) (m k)
def fitH (miss m0 m1 m2 m3 : Int) (h : Hf) : Bool := fitTo miss h.sum (gat h.g0 h.g1 h.g2 h.g3) (gat m0 m1 m2 m3) 4
theorem fitTo_false {miss n : Int} {g m : Nat → Int} {k : Nat} (h : fitK miss n (g k) (m k) = false) : ∀ j, k < j → fitTo miss n g m j = false := by
 intro j
 induction j with
 | zero => intro h; omega
 | succ j ih =>
  intro hj
  unfold fitTo
  by_cases hk : k = j
  ·subst hk; rw [h, Bool.and_false]
  ·rw [ih (by omega), Bool.false_and]
theorem fitH_iff {miss m0 m1 m2 m3 : Int} {h : Hf} : fitH miss m0 m1 m2 m3 h = true ↔ h.fitsM miss m0 m1 m2 m3 := by
 simp only [fitH, fitTo, fitK, Hf.fitsM, fitsK, gat, Bool.and_eq_true, decide_eq_true_eq, Bool.true_and]
 omega
theorem gat_of {g0 g1 g2 g3 lo hi : Int} (a0 : lo ≤ g0) (a1 : lo ≤ g1) (a2 : lo ≤ g2) (a3 : lo ≤ g3) (b0 : g0 ≤ hi) (b1 : g1 ≤ hi) (b2 : g2 ≤ hi) (b3 : g3 ≤ hi) (k : Nat) : lo ≤ gat g0 g1 g2 g3 k ∧ gat g0 g1 g2 g3 k ≤ hi := by
 unfold gat
 split <;> omega
theorem ix_gat (g0 g1 g2 g3 : Int) {k : Nat} (hk : k < 4) : ∀ w : World, (Instr.index 28 (.agg #[.int .i64 g0, .int .i64 g1, .int .i64 g2, .int .i64 g3]) (.int .i64 (k : Int))).run Try.prog w = .ok (.int .i64 (gat g0 g1 g2 g3 k)) w := by
 intro w
 match k, hk with
 | 0, _ => show (Instr.index 28 (.agg #[.int .i64 g0, .int .i64 g1, .int .i64 g2, .int .i64 g3]) (.int .i64 0)).run Try.prog w = .ok (.int .i64 g0) w; kernel_rfl
 | 1, _ => show (Instr.index 28 (.agg #[.int .i64 g0, .int .i64 g1, .int .i64 g2, .int .i64 g3]) (.int .i64 1)).run Try.prog w = .ok (.int .i64 g1) w; kernel_rfl
 | 2, _ => show (Instr.index 28 (.agg #[.int .i64 g0, .int .i64 g1, .int .i64 g2, .int .i64 g3]) (.int .i64 2)).run Try.prog w = .ok (.int .i64 g2) w; kernel_rfl
 | 3, _ => show (Instr.index 28 (.agg #[.int .i64 g0, .int .i64 g1, .int .i64 g2, .int .i64 g3]) (.int .i64 3)).run Try.prog w = .ok (.int .i64 g3) w; kernel_rfl
theorem taken_bd {h : Hf} (ht : h.taken = true) : (0 ≤ h.spot ∧ h.spot ≤ 2) ∧ (0 ≤ h.g0 ∧ h.g0 ≤ 200) ∧ (0 ≤ h.g1 ∧ h.g1 ≤ 200) ∧ (0 ≤ h.g2 ∧ h.g2 ≤ 200) ∧ 0 ≤ h.g3 ∧ h.g3 ≤ 200 := by
 simp only [Hf.taken, within, Bool.and_eq_true, decide_eq_true_eq] at ht
 omega
set_option maxRecDepth 100000 in
set_option maxHeartbeats 8000000 in
theorem fits_any (err miss : Int) (G : Option Addr) (gl d : Nat) (A : Option Addr) (c : Nat) (hs : List Hf) (m0 m1 m2 m3 : Int) (q0 : 0 ≤ m0 ∧ m0 ≤ 40) (q1 : 0 ≤ m1 ∧ m1 ≤ 40) (q2 : 0 ≤ m2 ∧ m2 ≤ 40) (q3 : 0 ≤ m3 ∧ m3 ≤ 40) (i0 : 0 ≤ miss) (i1 : miss ≤ 20) (w : World) (hA : HandsAt w A hs) (hl : hs.length ≤ 1000) (ht : ∀ x ∈ hs, x.taken = true) :
  Calls Try.prog 64 #[.agg #[.int .i64 err, .int .i64 miss, .slice G gl d], .slice A hs.length c, .agg #[.int .i64 m0, .int .i64 m1, .int .i64 m2, .int .i64 m3]] w fun e w' => e = .returned (.bool (hs.all (fitH miss m0 m1 m2 m3))) ∧ Below w.heap.size w w' := by
 have HA := Lib.hid hA
 have HT := Lib.hid ht
 clear hA ht
 go_enter Try.func64, Try.ntmps64
 go_wp2_with fail
 go_loopw [17] (fun v17 wr => ∃ k : Nat, k ≤ hs.length ∧ v17 = .int .i64 (k : Int) ∧ Hid (hs.all (fitH miss m0 m1 m2 m3) = (hs.drop k).all (fitH miss m0 m1 m2 m3)) ∧ Below w.heap.size w wr ∧ Holds wr (w.heap.size) 24 #[.int .i64 err, .int .i64 miss, .slice G gl d] ∧ Holds wr (w.heap.size + 1) 28 #[.int .i64 m0, .int .i64 m1, .int .i64 m2, .int .i64 m3]) (fun v17 _ => hs.length - (intOf v17).toNat)
 case atStart => exact ⟨0, Nat.zero_le _, rfl, rfl, zg, zp4, zp4⟩
 case round =>
  obtain ⟨k, hk, rfl, hp, hB, hg, hmm⟩ := hrel
  have HB := Lib.hid hB
  have Hg := Lib.hid hg
  have Hm := Lib.hid hmm
  have hszr := hB.size
  have lmr := hmm.lt
  clear hB hg hmm
  by_cases hlt : k < hs.length
  ·obtain ⟨B, o, rfl, hcell⟩ := (HA.out.up HB.out) (by omega)
   obtain ⟨c0, c1, c2, c3, c4⟩ := hcell k _ (List.getElem?_eq_getElem hlt)
   clear hcell
   have htk := HT.out _ (List.getElem_mem hlt)
   obtain ⟨h, hh⟩ : ∃ z, z = hs[k] := ⟨_, rfl⟩
   rw [← hh] at htk c0 c1 c2 c3 c4
   obtain ⟨⟨t0, t1⟩, ⟨a0, b0⟩, ⟨a1, b1⟩, ⟨a2, b2⟩, a3, b3⟩ := taken_bd htk
   have HH := Lib.hid hh
   clear htk hh
   obtain ⟨n, hn⟩ : ∃ z, z = h.sum := ⟨_, rfl⟩
   have hnn := hn
   unfold Hf.sum at hnn
   have n0 : 0 ≤ n := by omega
   have n1 : n ≤ 800 := by omega
   have HN := Lib.hid hnn
   have HNS := Lib.hid hn
   clear hn hnn
   have lgr : w.heap.size < wr.heap.size := by omega
   have ix0 : ∀ w : World, (Instr.index 28 (.agg #[.int .i64 h.g0, .int .i64 h.g1, .int .i64 h.g2, .int .i64 h.g3]) (.int .i64 0)).run Try.prog w = .ok (.int .i64 h.g0) w := fun _ => by kernel_rfl
   have ix1 : ∀ w : World, (Instr.index 28 (.agg #[.int .i64 h.g0, .int .i64 h.g1, .int .i64 h.g2, .int .i64 h.g3]) (.int .i64 1)).run Try.prog w = .ok (.int .i64 h.g1) w := fun _ => by kernel_rfl
   have ix2 : ∀ w : World, (Instr.index 28 (.agg #[.int .i64 h.g0, .int .i64 h.g1, .int .i64 h.g2, .int .i64 h.g3]) (.int .i64 2)).run Try.prog w = .ok (.int .i64 h.g2) w := fun _ => by kernel_rfl
   have ix3 : ∀ w : World, (Instr.index 28 (.agg #[.int .i64 h.g0, .int .i64 h.g1, .int .i64 h.g2, .int .i64 h.g3]) (.int .i64 3)).run Try.prog w = .ok (.int .i64 h.g3) w := fun _ => by kernel_rfl
   go_wp2_with fail
   (refine wp_loop_rounds 5 ?_; repeat any_goals (rw [rounds_succ]; go_wp2))
   rw [← HN.out]
   have hkm : (gat m0 m1 m2 m3) = (gat m0 m1 m2 m3) := rfl
   clear hkm
   go_loop [32] (fun v32 => ∃ j : Nat, j ≤ 4 ∧ v32 = .int .i64 (j : Int) ∧ Hid (fitTo miss n (gat h.g0 h.g1 h.g2 h.g3) (gat m0 m1 m2 m3) j = true)) (fun v32 => 4 - (intOf v32).toNat)
   case atStart => exact ⟨0, by decide, rfl, Lib.hid rfl⟩
   case round =>
    obtain ⟨j, hj4, rfl, hft⟩ := hrel
    by_cases hj : j < 4
    ·have hji : (j : Int) < 4 := by omega
     obtain ⟨x, hx⟩ : ∃ z, z = gat h.g0 h.g1 h.g2 h.g3 j := ⟨_, rfl⟩
     obtain ⟨mj, hm⟩ : ∃ z, z = gat m0 m1 m2 m3 j := ⟨_, rfl⟩
     have xb : 0 ≤ x ∧ x ≤ 200 := by rw [hx]; exact gat_of a0 a1 a2 a3 b0 b1 b2 b3 j
     have mb : 0 ≤ mj ∧ mj ≤ 40 := by rw [hm]; exact gat_of q0.1 q1.1 q2.1 q3.1 q0.2 q1.2 q2.2 q3.2 j
     have ix : ∀ w : World, (Instr.index 28 (.agg #[.int .i64 h.g0, .int .i64 h.g1, .int .i64 h.g2, .int .i64 h.g3]) (.int .i64 (j : Int))).run Try.prog w = .ok (.int .i64 x) w := by rw [hx]; exact ix_gat _ _ _ _ hj
     have kj : wr.cell? ⟨w.heap.size + 1, j, none⟩ = some (.int .i64 mj) := by rw [hm]; exact cell4_at Hm.out hj
     have kg1 : wr.cell? ⟨w.heap.size, 1, none⟩ = some (.int .i64 miss) := Hg.out.cell 1
     have p0 : 0 ≤ mj * n := Int.mul_nonneg mb.1 n0
     have p1 : mj * n ≤ 40 * 800 := Int.mul_le_mul mb.2 n1 n0 (by decide)
     have HX := Lib.hid hx
     have HMJ := Lib.hid hm
     clear hx hm
     by_cases h1 : mj * n - 40 * x ≤ 40 * miss ∧ 40 * x - mj * n ≤ 40 * miss
     ·obtain ⟨h2, h3⟩ := h1
      have HT1 : Hid (fitTo miss n (gat h.g0 h.g1 h.g2 h.g3) (gat m0 m1 m2 m3) (j + 1) = true) := Lib.hid (by rw [fitTo, hft.out, ← HX.out, ← HMJ.out, fitK, decide_eq_true h2, decide_eq_true h3]; rfl)
      go_wp2_with fail
      all_goals
       go_round
       case rel => exact ⟨j + 1, by omega, by go_num, HT1⟩
       case measure => simp [intOf]; omega
     ·have HT1 : Hid (hs.all (fitH miss m0 m1 m2 m3) = false) := Lib.hid (by
       rw [hp.out, List.drop_eq_getElem_cons hlt, List.all_cons, ← HH.out]
       have : fitK miss n ((gat h.g0 h.g1 h.g2 h.g3) j) ((gat m0 m1 m2 m3) j) = false := by
        rw [← HX.out, ← HMJ.out, fitK]
        by_cases h2 : mj * n - 40 * x ≤ 40 * miss
        ·have h3 : ¬ 40 * x - mj * n ≤ 40 * miss := fun h => h1 ⟨h2, h⟩; rw [decide_eq_false h3, Bool.and_false]
        ·rw [decide_eq_false h2, Bool.false_and]
       have hfh : fitH miss m0 m1 m2 m3 h = false := by unfold fitH; rw [← HNS.out]; exact fitTo_false this 4 hj
       rw [hfh, Bool.false_and])
      by_cases h2 : mj * n - 40 * x ≤ 40 * miss
      ·have h3 : 40 * miss < 40 * x - mj * n := by omega
       clear h1
       go_wp2_with fail
       all_goals first
        | (exfalso; omega)
        | (go_ret; exact ⟨by rw [HT1.out]; rfl, HB.out.trans zg⟩)
      ·have h3 : 40 * miss < mj * n - 40 * x := by omega
       clear h1
       go_wp2_with fail
       all_goals first
        | (exfalso; omega)
        | (go_ret; exact ⟨by rw [HT1.out]; rfl, HB.out.trans zg⟩)
    ·have hj' : j = 4 := by omega
     subst hj'
     have HK1 : Hid (hs.all (fitH miss m0 m1 m2 m3) = (hs.drop (k + 1)).all (fitH miss m0 m1 m2 m3)) := Lib.hid (by
      rw [hp.out, List.drop_eq_getElem_cons hlt, List.all_cons, ← HH.out]
      have hfh : fitH miss m0 m1 m2 m3 h = true := by unfold fitH; rw [← HNS.out]; exact hft.out
      rw [hfh, Bool.true_and])
     go_wp2_with fail
     go_roundw
     case rel => exact ⟨k + 1, hlt, by go_num, HK1, HB.out.trans zg, (by have h := Hg.out; exact zp4), (by have h := Hm.out; exact zp4)⟩
     case measure => simp [intOf]; omega
  ·have hkl : k = hs.length := by omega
   have hfin : hs.all (fitH miss m0 m1 m2 m3) = true := by rw [hp.out, hkl, List.drop_length]; rfl
   have HF := Lib.hid hfin
   clear hfin
   go_wp2_with fail
   go_ret
   exact ⟨by rw [HF.out]; rfl, HB.out⟩
end Go.Proofs.Ytigkcillgniolaa
