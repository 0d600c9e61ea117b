
import Derived.Test.YtifffonoipapgaaVAA
import Derived.Test.YtifffonoipapgaaVAC
import Derived.Test.YtifffonoipapgaaVBF
import Derived.Test.YtifffonoipapgaaVBI
import Derived.Test.YtifffonoipapgaaVBU
set_option linter.unusedSimpArgs false
set_option linter.unusedVariables false
namespace Go.Proofs.Ytifffonoipapgaa
open Go.RowKit
theorem made_at {W : World} {O n : Nat} {z : Value} {t : TypeId} (hO : O = W.heap.size) : (W.alloc (.cells (madeCells #[z] n) t)).rowIs O t n (fun _ => z) := hO ▸ World.rowIs_made W z n t
theorem Tab.clash {w : World} {O B s n q : Nat} {f g h : Nat → Value} {L L' : Nat → List Mx} {A : Option Addr} (k : Tab w O B f h L) (k' : Tab w O B g g L') (hs : s < 64) (hfs : f s = .slice A n q) (hl : (L' s).length = n + 1) : False := by
 have e := (k.1.cell hs).symm.trans (k'.1.cell hs)
 obtain ⟨A', q', e2, _⟩ := rk_val (k'.2.1 s hs)
 rw [hfs, e2, hl] at e
 simp at e
theorem Tab.congr {w : World} {O B : Nat} {f g : Nat → Value} {L L' : Nat → List Mx} (h : Tab w O B f g L) (e : ∀ s, L' s = L s) : Tab w O B f g L' := ⟨h.1, h.2.congr e⟩
theorem list_next {miss : Int} {hs : List Hf} {a b x s : Nat} (h : missTo miss hs (mk3 a b x) hs.length = s) (j : Nat) : listOf miss hs (preM a b (x + 1)) j = if j = s then listOf miss hs (preM a b x) s ++ [mk3 a b x] else listOf miss hs (preM a b x) j := by
 rw [pre_d, listOf_snoc, h]
 by_cases e : j = s
 ·rw [if_pos e, if_pos e.symm, e]
 ·rw [if_neg e, if_neg (fun h => e h.symm), List.append_nil]
theorem pow_six {i : Nat} (h : i ≤ 6) : 2 ^ i ≤ 64 := Nat.le_trans (Nat.pow_le_pow_right (by decide) h) (by decide)
theorem pow_five {i : Nat} (h : i < 6) : 2 ^ i ≤ 32 := Nat.le_trans (Nat.pow_le_pow_right (by decide) (by omega : i ≤ 5)) (by decide)
set_option maxRecDepth 100000 in
set_option maxHeartbeats 8000000 in
theorem refAll_any (err miss : Int) (G : Option Addr) (gl d : Nat) (full emp : Int) (A : Option Addr) (c : Nat) (hs : List Hf) (i0 : 0 ≤ miss) (i1 : miss ≤ 20) (w : World) (hA : HandsAt w A hs) (h6 : hs.length ≤ 6) (ht : ∀ x ∈ hs, x.taken = true) :
  Calls Try.prog 41 #[.agg #[.int .i64 err, .int .i64 miss, .slice G gl d], .agg #[.int .i64 full, .int .i64 emp, .slice A hs.length c]] w fun e w' => ∃ f, e = .returned (.slice (some ⟨w.heap.size + 1 + 1, 0, none⟩) 64 64) ∧ Tab w' (w.heap.size + 1 + 1) (w.heap.size + 1 + 1 + 1) f f (listOf miss hs (preM 41 0 0)) ∧ Below w.heap.size w w' := by
 obtain ⟨ti, hti, hti0, hti1, hti2⟩ := info_parts info_four
 have HA := Lib.hid hA
 have HT := Lib.hid ht
 clear hA ht
 have hmk : ∀ w : World, (Instr.makeSlice 78 (.int .i64 64) (.int .i64 64)).run Try.prog w = .ok (.slice (some ⟨w.heap.size, 0, none⟩) 64 64) (w.alloc (.cells (madeCells #[.slice none 0 0] 64) 77)) := fun w => run_make_row' (P := Try.prog) 78 77 (.slice none 0 0) 24 und_table info_fours rfl .i64 .i64 64 (by decide) (by decide) w
 go_enter Try.func41, Try.ntmps41
 go_wp2_with fail
 go_loopw [6, 7, 8, 9, 10, 11, 12] (fun v6 v7 v8 v9 v10 v11 v12 wr => ∃ (a : Nat) (f : Nat → Value), v6 = .int .i64 (a : Int) ∧ a ≤ 41 ∧ Holds wr (w.heap.size) 49 #[.int .i64 err, .int .i64 miss, .slice G gl d] ∧ Holds wr (w.heap.size + 1) 37 #[.int .i64 full, .int .i64 emp, .slice A hs.length c] ∧ Tab wr (w.heap.size + 1 + 1) (w.heap.size + 1 + 1 + 1) f f (listOf miss hs (preM a 0 0)) ∧ Below w.heap.size w wr) (fun v6 _ _ _ _ _ _ _ => 41 - (intOf v6).toNat)
 case atStart => exact ⟨0, fun _ => .slice none 0 0, rfl, by decide, by (repeat first | (with_reducible first | assumption | apply Holds.set3 | apply Holds.set4 | apply Holds.putL | ((refine Holds.new' _ _ ?_); (simp; done)) | refine Holds.alloc ?_ _ | refine Holds.drew ?_ | refine Holds.far ?_ (by simp only [ne_eq]; omega) _) | rfl), by (repeat first | (with_reducible first | assumption | apply Holds.set3 | apply Holds.set4 | apply Holds.putL | ((refine Holds.new' _ _ ?_); (simp; done)) | refine Holds.alloc ?_ _ | refine Holds.drew ?_ | refine Holds.far ?_ (by simp only [ne_eq]; omega) _) | rfl), ⟨made_at (by simp), (Fam.nil _ _).congr (fun s => rfl)⟩, zg⟩
 case round =>
  rename World => wa
  obtain ⟨a, f, rfl, ha, hg_, hc_, ht_, hB_⟩ := hrel
  have HGa := Lib.hid hg_
  have HCa := Lib.hid hc_
  have HTBa := Lib.hid ht_
  have HBa := Lib.hid hB_
  have lOa := ht_.1.lt
  have hza := hB_.size
  clear hg_ hc_ ht_ hB_
  by_cases hlt : a ≤ 40
  ·have hlt' : (a : Int) ≤ 40 := by omega
   go_wp2_with fail
   go_loopw [7, 8, 9, 10, 11, 12] (fun v7 v8 v9 v10 v11 v12 wr => ∃ (b : Nat) (f : Nat → Value), v7 = .int .i64 (b : Int) ∧ a + b ≤ 41 ∧ Holds wr (w.heap.size) 49 #[.int .i64 err, .int .i64 miss, .slice G gl d] ∧ Holds wr (w.heap.size + 1) 37 #[.int .i64 full, .int .i64 emp, .slice A hs.length c] ∧ Tab wr (w.heap.size + 1 + 1) (w.heap.size + 1 + 1 + 1) f f (listOf miss hs (preM a b 0)) ∧ Below w.heap.size w wr) (fun v7 _ _ _ _ _ _ => 41 - (intOf v7).toNat)
   case atStart => exact ⟨0, f, rfl, by omega, (by have h := HGa.out; exact zp4), (by have h := HCa.out; exact zp4), HTBa.out, HBa.out⟩
   case round =>
    clear HGa HCa HTBa HBa lOa hza f
    rename World => wb
    obtain ⟨b, f, rfl, hb, hg_, hc_, ht_, hB_⟩ := hrel
    have HGb := Lib.hid hg_
    have HCb := Lib.hid hc_
    have HTBb := Lib.hid ht_
    have HBb := Lib.hid hB_
    have lOb := ht_.1.lt
    have hzb := hB_.size
    clear hg_ hc_ ht_ hB_
    by_cases hlt2 : a + b ≤ 40
    ·have hlt2' : (a : Int) + (b : Int) ≤ 40 := by omega
     go_wp2_with fail
     go_loopw [8, 9, 10, 11, 12] (fun v8 v9 v10 v11 v12 wr => ∃ (x : Nat) (f : Nat → Value), v8 = .int .i64 (x : Int) ∧ a + b + x ≤ 41 ∧ Holds wr (w.heap.size) 49 #[.int .i64 err, .int .i64 miss, .slice G gl d] ∧ Holds wr (w.heap.size + 1) 37 #[.int .i64 full, .int .i64 emp, .slice A hs.length c] ∧ Tab wr (w.heap.size + 1 + 1) (w.heap.size + 1 + 1 + 1) f f (listOf miss hs (preM a b x)) ∧ Below w.heap.size w wr) (fun v8 _ _ _ _ _ => 41 - (intOf v8).toNat)
     case atStart => exact ⟨0, f, rfl, by omega, (by have h := HGb.out; exact zp4), (by have h := HCb.out; exact zp4), HTBb.out, HBb.out⟩
     case round =>
      clear HGb HCb HTBb HBb lOb hzb f
      rename World => wc
      obtain ⟨x, f, rfl, hx, hg_, hc_, ht_, hB_⟩ := hrel
      have HGc := Lib.hid hg_
      have HCc := Lib.hid hc_
      have HTBc := Lib.hid ht_
      have HBc := Lib.hid hB_
      have lOc := ht_.1.lt
      have hzc := hB_.size
      clear hg_ hc_ ht_ hB_
      by_cases hlt3 : a + b + x ≤ 40
      ·have hlt3' : (a : Int) + (b : Int) + (x : Int) ≤ 40 := by omega
       have lcr : w.heap.size + 1 + 1 < wc.heap.size := lOc
       go_wp2_with fail
       go_loopw [10, 11, 12] (fun v10 v11 v12 wr => ∃ i : Nat, v12 = .int .i64 (i : Int) ∧ i ≤ hs.length ∧ v10 = .int .i64 ((missTo miss hs (mk3 a b x) i : Nat) : Int) ∧ v11 = .int .i64 ((2 ^ i : Nat) : Int) ∧ Holds wr (wc.heap.size) 28 #[.int .i64 (a : Int), .int .i64 (b : Int), .int .i64 (x : Int), .int .i64 (40 - (a : Int) - (b : Int) - (x : Int))] ∧ Below wc.heap.size wc wr ∧ wc.heap.size < wr.heap.size) (fun _ _ v12 _ => hs.length - (intOf v12).toNat)
       case atStart => exact ⟨0, rfl, Nat.zero_le _, rfl, rfl, by (repeat first | (with_reducible first | assumption | apply Holds.set3 | apply Holds.set4 | apply Holds.putL | ((refine Holds.new' _ _ ?_); (simp; done)) | refine Holds.alloc ?_ _ | refine Holds.drew ?_ | refine Holds.far ?_ (by simp only [ne_eq]; omega) _) | rfl), zg, by simp⟩
       case round =>
        rename World => wd
        obtain ⟨i, rfl, hi, rfl, rfl, hm_, hbd_, hsd⟩ := hrel
        have HM := Lib.hid hm_
        have HBd := Lib.hid hbd_
        have HGd := Lib.hid (HGc.out.up hbd_)
        have HCd := Lib.hid (HCc.out.up hbd_)
        have lmd := hm_.lt
        have ldc := hbd_.size
        obtain ⟨kc0, kc1, kc2⟩ := (HCc.out.up hbd_).c3
        clear hm_ hbd_
        obtain ⟨sv, hsv⟩ : ∃ z, z = missTo miss hs (mk3 a b x) i := ⟨_, rfl⟩
        obtain ⟨pw, hpw⟩ : ∃ z, z = 2 ^ i := ⟨_, rfl⟩
        have hsp : sv < pw := by rw [hsv, hpw]; exact missTo_lt _ _ _ _
        have hp64 : pw ≤ 64 := by rw [hpw]; exact pow_six (by omega)
        rw [← hsv, ← hpw]
        have HSV := Lib.hid hsv
        have HPW := Lib.hid hpw
        clear hsv hpw
        by_cases hil : i < hs.length
        ·have hil' : (i : Int) < hs.length := by omega
         obtain ⟨B, o, rfl, hcell⟩ := (HA.out.up (HBc.out.trans (HBd.out.mono hzc))) (by omega)
         obtain ⟨y, hy⟩ : ∃ g, hs[i]? = some g := ⟨_, List.getElem?_eq_getElem hil⟩
         obtain ⟨c0, c1, c2, c3, c4⟩ := hcell i y hy
         have HTY := Lib.hid (HT.out y (List.mem_of_getElem? hy))
         have HH := Lib.hid hy
         have lB := World.block_lt_of_cell? wd _ c0
         clear hcell hy
         obtain ⟨q, hq⟩ : ∃ z, fitH miss (a : Int) (b : Int) (x : Int) (40 - (a : Int) - (b : Int) - (x : Int)) y = z := ⟨_, rfl⟩
         have HFB := Lib.hid hq
         clear hq
         go_wp2_with fail
         rename_i Kc hKc
         have HSL := Lib.hid (show slotsOf [some 49, some 50, some 51, some 52, some 53, some 54, some 55, some 56, some 57] = [49, 50, 51, 52, 53, 54, 55, 56, 57] from rfl)
         refine wp_region_partsG (by kernel_rfl) [some 49, some 50, some 51, some 52, some 53, some 54, some 55, some 56, some 57] (fun jq xq w' => match jq with
          | 0 => xq 49 = .agg #[.int .i64 err, .int .i64 miss, .slice G gl d]
          | 1 => xq 50 = .pointer (some ⟨w.heap.size + 1, 2, none⟩)
          | 2 => xq 51 = .slice (some ⟨B, o, none⟩) hs.length c
          | 3 => xq 52 = .int .i64 (i : Int)
          | 4 => xq 53 = .pointer (some ⟨B, o + i * 5, none⟩)
          | 5 => xq 54 = .agg #[.int .i64 y.spot, .int .i64 y.g0, .int .i64 y.g1, .int .i64 y.g2, .int .i64 y.g3]
          | 6 => xq 55 = .agg #[.int .i64 (a : Int), .int .i64 (b : Int), .int .i64 (x : Int), .int .i64 (40 - (a : Int) - (b : Int) - (x : Int))]
          | 7 => xq 56 = .bool q
          | 8 => xq 57 = .bool (!q)
          | _ => True) [[49], [50], [51], [52], [53], [54], [55], [56], [57]] [] (fun w' => Below wd.heap.size wd w') (by kernel_rfl)  ?_ ?_ (fun w' w'' hb h => h.trans (hb.mono h.size)) (Below.refl _ _) ?_ ?_ ?_
         ·intro jq xq xq' wqq h hv
          match jq, h, hv with
          | 0, h, hv => show xq' 49 = .agg #[.int .i64 err, .int .i64 miss, .slice G gl d]; rw [← h 49 (by decide)]; exact hv
          | 1, h, hv => show xq' 50 = .pointer (some ⟨w.heap.size + 1, 2, none⟩); rw [← h 50 (by decide)]; exact hv
          | 2, h, hv => show xq' 51 = .slice (some ⟨B, o, none⟩) hs.length c; rw [← h 51 (by decide)]; exact hv
          | 3, h, hv => show xq' 52 = .int .i64 (i : Int); rw [← h 52 (by decide)]; exact hv
          | 4, h, hv => show xq' 53 = .pointer (some ⟨B, o + i * 5, none⟩); rw [← h 53 (by decide)]; exact hv
          | 5, h, hv => show xq' 54 = .agg #[.int .i64 y.spot, .int .i64 y.g0, .int .i64 y.g1, .int .i64 y.g2, .int .i64 y.g3]; rw [← h 54 (by decide)]; exact hv
          | 6, h, hv => show xq' 55 = .agg #[.int .i64 (a : Int), .int .i64 (b : Int), .int .i64 (x : Int), .int .i64 (40 - (a : Int) - (b : Int) - (x : Int))]; rw [← h 55 (by decide)]; exact hv
          | 7, h, hv => show xq' 56 = .bool q; rw [← h 56 (by decide)]; exact hv
          | 8, h, hv => show xq' 57 = .bool (!q); rw [← h 57 (by decide)]; exact hv
          | _ + 9, _, _ => trivial
         ·intro jq xq wqq w' hb' hv
          match jq, hv with
          | 0, hv => exact hv
          | 1, hv => exact hv
          | 2, hv => exact hv
          | 3, hv => exact hv
          | 4, hv => exact hv
          | 5, hv => exact hv
          | 6, hv => exact hv
          | 7, hv => exact hv
          | 8, hv => exact hv
          | _ + 9, _ => trivial
         ·intro jq hj
          match jq, hj with
          | 0, hj => exact absurd hj (by decide)
          | 1, hj => exact absurd hj (by decide)
          | 2, hj => exact absurd hj (by decide)
          | 3, hj => exact absurd hj (by decide)
          | 4, hj => exact absurd hj (by decide)
          | 5, hj => exact absurd hj (by decide)
          | 6, hj => exact absurd hj (by decide)
          | 7, hj => exact absurd hj (by decide)
          | 8, hj => exact absurd hj (by decide)
          | _ + 9, _ => trivial
         ·refine ⟨?_, ?_, ?_, ?_, ?_, ?_, ?_, ?_, ?_, trivial⟩
          ·intro xq w1 hb1 hx K hK0
           have hK := fun v w' hb => hK0 v w' (.inl hb)
           clear hx hKc hK0
           obtain ⟨kHGd0, kHGd1, kHGd2⟩ := (HGd.out.up hb1).c3
           simp only [frameOf, fill, setSlot, sg, Nat.reduceBEq, if_true, if_false, Nat.reduceAdd, Nat.reduceEqDiff, HSL.out] at hK ⊢
           go_wp2_with (fail)
           exact hK _ _ (Below.refl _ _) rfl
          ·intro xq w1 hb1 hx K hK0
           have hK := fun v w' hb => hK0 v w' (.inl hb)
           clear hx hKc hK0
           simp only [frameOf, fill, setSlot, sg, Nat.reduceBEq, if_true, if_false, Nat.reduceAdd, Nat.reduceEqDiff, HSL.out] at hK ⊢
           go_wp2_with (fail)
           exact hK _ _ (Below.refl _ _) rfl
          ·intro xq w1 hb1 hx K hK0
           have hK := fun v w' hb => hK0 v w' (.inl hb)
           have e50 : xq 50 = .pointer (some ⟨w.heap.size + 1, 2, none⟩) := hx 1 (by rfl) (by rfl)
           clear hx hKc hK0
           have kHC2 : w1.cell? ⟨w.heap.size + 1, 2, none⟩ = some (.slice (some ⟨B, o, none⟩) hs.length c) := (HCd.out.up hb1).cell 2
           simp only [frameOf, fill, setSlot, sg, Nat.reduceBEq, if_true, if_false, Nat.reduceAdd, Nat.reduceEqDiff, HSL.out] at hK ⊢
           simp only [e50] at hK ⊢
           clear e50
           go_wp2_with (fail)
           exact hK _ _ (Below.refl _ _) rfl
          ·intro xq w1 hb1 hx K hK0
           have hK := fun v w' hb => hK0 v w' (.inl hb)
           clear hx hKc hK0
           simp only [frameOf, fill, setSlot, sg, Nat.reduceBEq, if_true, if_false, Nat.reduceAdd, Nat.reduceEqDiff, HSL.out] at hK ⊢
           go_wp2_with (fail)
           exact hK _ _ (Below.refl _ _) rfl
          ·intro xq w1 hb1 hx K hK0
           have hK := fun v w' hb => hK0 v w' (.inl hb)
           have e51 : xq 51 = .slice (some ⟨B, o, none⟩) hs.length c := hx 2 (by rfl) (by rfl)
           have e52 : xq 52 = .int .i64 (i : Int) := hx 3 (by rfl) (by rfl)
           clear hx hKc hK0
           have hki : (i : Int) < hs.length := by omega
           simp only [frameOf, fill, setSlot, sg, Nat.reduceBEq, if_true, if_false, Nat.reduceAdd, Nat.reduceEqDiff, HSL.out] at hK ⊢
           simp only [e51, e52] at hK ⊢
           clear e51 e52
           go_wp2_with (fail)
           exact hK _ _ (Below.refl _ _) rfl
          ·intro xq w1 hb1 hx K hK0
           have hK := fun v w' hb => hK0 v w' (.inl hb)
           have e53 : xq 53 = .pointer (some ⟨B, o + i * 5, none⟩) := hx 4 (by rfl) (by rfl)
           clear hx hKc hK0
           have ky0 : w1.cell? ⟨B, o + i * 5, none⟩ = some (.int .i64 y.spot) := up_cell hb1 c0
           have ky1 : w1.cell? ⟨B, o + i * 5 + 1, none⟩ = some (.int .i64 y.g0) := up_cell hb1 c1
           have ky2 : w1.cell? ⟨B, o + i * 5 + 2, none⟩ = some (.int .i64 y.g1) := up_cell hb1 c2
           have ky3 : w1.cell? ⟨B, o + i * 5 + 3, none⟩ = some (.int .i64 y.g2) := up_cell hb1 c3
           have ky4 : w1.cell? ⟨B, o + i * 5 + 4, none⟩ = some (.int .i64 y.g3) := up_cell hb1 c4
           simp only [frameOf, fill, setSlot, sg, Nat.reduceBEq, if_true, if_false, Nat.reduceAdd, Nat.reduceEqDiff, HSL.out] at hK ⊢
           simp only [e53] at hK ⊢
           clear e53
           go_wp2_with (fail)
           exact hK _ _ (Below.refl _ _) rfl
          ·intro xq w1 hb1 hx K hK0
           have hK := fun v w' hb => hK0 v w' (.inl hb)
           clear hx hKc hK0
           obtain ⟨kHM0, kHM1, kHM2⟩ := (HM.out.up hb1).c3
           have kHM3 : w1.cell? ⟨wc.heap.size, 3, none⟩ = some (.int .i64 (40 - (a : Int) - (b : Int) - (x : Int))) := (HM.out.up hb1).cell 3
           simp only [frameOf, fill, setSlot, sg, Nat.reduceBEq, if_true, if_false, Nat.reduceAdd, Nat.reduceEqDiff, HSL.out] at hK ⊢
           go_wp2_with (fail)
           exact hK _ _ (Below.refl _ _) rfl
          ·intro xq w1 hb1 hx K hK0
           have hK := fun v w' hb => hK0 v w' (.inl hb)
           have e49 : xq 49 = .agg #[.int .i64 err, .int .i64 miss, .slice G gl d] := hx 0 (by rfl) (by rfl)
           have e54 : xq 54 = .agg #[.int .i64 y.spot, .int .i64 y.g0, .int .i64 y.g1, .int .i64 y.g2, .int .i64 y.g3] := hx 5 (by rfl) (by rfl)
           have e55 : xq 55 = .agg #[.int .i64 (a : Int), .int .i64 (b : Int), .int .i64 (x : Int), .int .i64 (40 - (a : Int) - (b : Int) - (x : Int))] := hx 6 (by rfl) (by rfl)
           clear hx hKc hK0
           simp only [frameOf, fill, setSlot, sg, Nat.reduceBEq, if_true, if_false, Nat.reduceAdd, Nat.reduceEqDiff, HSL.out] at hK ⊢
           simp only [e49, e54, e55] at hK ⊢
           clear e49 e54 e55
           go_wp2_with (go_at_call 96; refine (refFit_any err miss G gl d y (a : Int) (b : Int) (x : Int) (40 - (a : Int) - (b : Int) - (x : Int)) ⟨by omega, by omega⟩ ⟨by omega, by omega⟩ ⟨by omega, by omega⟩ ⟨by omega, by omega⟩ i0 i1 HTY.out _).mono ?_; rw [HFB.out]; rintro e w2_ ⟨rfl, hb_⟩)
           exact hK _ _ hb_ rfl
          ·intro xq w1 hb1 hx K hK0
           have hK := fun v w' hb => hK0 v w' (.inl hb)
           have e56 : xq 56 = .bool q := hx 7 (by rfl) (by rfl)
           clear hx hKc hK0
           simp only [frameOf, fill, setSlot, sg, Nat.reduceBEq, if_true, if_false, Nat.reduceAdd, Nat.reduceEqDiff, HSL.out] at hK ⊢
           simp only [e56] at hK ⊢
           clear e56
           go_wp2_with (fail)
           exact hK _ _ (Below.refl _ _) rfl
         ·intro xq w1 hb1 hx
          have e49 : xq 49 = .agg #[.int .i64 err, .int .i64 miss, .slice G gl d] := hx 0 (by decide)
          have e50 : xq 50 = .pointer (some ⟨w.heap.size + 1, 2, none⟩) := hx 1 (by decide)
          have e51 : xq 51 = .slice (some ⟨B, o, none⟩) hs.length c := hx 2 (by decide)
          have e52 : xq 52 = .int .i64 (i : Int) := hx 3 (by decide)
          have e53 : xq 53 = .pointer (some ⟨B, o + i * 5, none⟩) := hx 4 (by decide)
          have e54 : xq 54 = .agg #[.int .i64 y.spot, .int .i64 y.g0, .int .i64 y.g1, .int .i64 y.g2, .int .i64 y.g3] := hx 5 (by decide)
          have e55 : xq 55 = .agg #[.int .i64 (a : Int), .int .i64 (b : Int), .int .i64 (x : Int), .int .i64 (40 - (a : Int) - (b : Int) - (x : Int))] := hx 6 (by decide)
          have e56 : xq 56 = .bool q := hx 7 (by decide)
          have e57 : xq 57 = .bool (!q) := hx 8 (by decide)
          clear hx
          simp only [frameOf, fill, setSlot, sg, Nat.reduceBEq, if_true, if_false, Nat.reduceAdd, Nat.reduceEqDiff, HSL.out]
          simp only [e49, e50, e51, e52, e53, e54, e55, e56, e57]
          clear e49 e50 e51 e52 e53 e54 e55 e56 e57
          refine hKc _ _ ?_
          have HR := Lib.hid hb1
          have HBR := Lib.hid (HBd.out.trans (hb1.mono HBd.out.size))
          have hzR := hb1.size
          clear hb1
          cases q with
          | true =>
           have HS1 : Hid (missTo miss hs (mk3 a b x) (i + 1) = sv) := Lib.hid (by rw [missTo_succ HH.out, ← HSV.out, ← HPW.out, show fitH miss (mk3 a b x).a (mk3 a b x).b (mk3 a b x).c (mk3 a b x).d y = true from HFB.out]; rfl)
           have HP1 : Hid (2 ^ (i + 1) = 2 * pw) := Lib.hid (by rw [Nat.pow_succ, ← HPW.out, Nat.mul_comm])
           have hp32 : pw ≤ 32 := by rw [HPW.out]; exact pow_five (by omega)
           go_wp2_with fail
           go_roundw
           case rel => exact ⟨i + 1, by go_num, by omega, by rw [HS1.out] <;> go_num, by rw [HP1.out]; go_num, (by have h := HM.out.up HR.out; exact zp4), HBR.out.trans zg, by omega⟩
           case measure => first | (simp [intOf]; done) | (simp [intOf]; omega)
          | false =>
           have HS1 : Hid (missTo miss hs (mk3 a b x) (i + 1) = sv + pw) := Lib.hid (by rw [missTo_succ HH.out, ← HSV.out, ← HPW.out, show fitH miss (mk3 a b x).a (mk3 a b x).b (mk3 a b x).c (mk3 a b x).d y = false from HFB.out]; rfl)
           have HP1 : Hid (2 ^ (i + 1) = 2 * pw) := Lib.hid (by rw [Nat.pow_succ, ← HPW.out, Nat.mul_comm])
           have hp32 : pw ≤ 32 := by rw [HPW.out]; exact pow_five (by omega)
           go_wp2_with fail
           go_roundw
           case rel => exact ⟨i + 1, by go_num, by omega, by rw [HS1.out] <;> go_num, by rw [HP1.out]; go_num, (by have h := HM.out.up HR.out; exact zp4), HBR.out.trans zg, by omega⟩
           case measure => first | (simp [intOf]; done) | (simp [intOf]; omega)
        ·have hil' : ¬ (i : Int) < hs.length := by omega
         have hie : i = hs.length := by omega
         subst hie
         have hs64 : sv < 64 := by omega
         have HTBd := Lib.hid (HTBc.out.up HBd.out)
         have lOd := Lib.hid HTBd.out.1.lt
         obtain ⟨A0, q0, hfs, hnq, _⟩ := rk_val (HTBd.out.2.1 sv hs64)
         obtain ⟨n, hn⟩ : ∃ z, z = ((listOf miss hs (preM a b x)) sv).length := ⟨_, rfl⟩
         have hn1 : n ≤ 80000 := by rw [hn]; exact Nat.le_trans (listOf_len _ _ _ _) (Nat.le_trans (pre_len a b x) (by omega))
         rw [← hn] at hfs hnq
         have HFS := Lib.hid hfs
         have HN := Lib.hid hn
         clear hfs hn hnq
         go_wp2_with fail
         have hKc := True.intro
         have HSL := Lib.hid (show slotsOf [some 63, some 64, some 65, some 66, some 67, some 68, some 69, some 70, some 71, some 72, none] = [63, 64, 65, 66, 67, 68, 69, 70, 71, 72] from rfl)
         refine wp_region_partsG (by kernel_rfl) [some 63, some 64, some 65, some 66, some 67, some 68, some 69, some 70, some 71, some 72, none] (fun jq xq w' => match jq with
          | 0 => xq 63 = .slice (some ⟨w.heap.size + 1 + 1, 0, none⟩) 64 64
          | 1 => xq 64 = .int .i64 (sv : Int)
          | 2 => xq 65 = .slice (some ⟨w.heap.size + 1 + 1, 0, none⟩) 64 64
          | 3 => xq 66 = .int .i64 (sv : Int)
          | 4 => xq 67 = .pointer (some ⟨w.heap.size + 1 + 1, sv, none⟩)
          | 5 => xq 68 = .slice A0 n q0
          | 6 => xq 69 = .agg #[.int .i64 (a : Int), .int .i64 (b : Int), .int .i64 (x : Int), .int .i64 (40 - (a : Int) - (b : Int) - (x : Int))]
          | 7 => ∃ bb, xq 70 = .slice (some ⟨bb, 0, none⟩) 1 1 ∧ Holds w' bb 28 #[.int .i64 (a : Int), .int .i64 (b : Int), .int .i64 (x : Int), .int .i64 (40 - (a : Int) - (b : Int) - (x : Int))]
          | 8 => ∃ A2 q2, xq 71 = .slice A2 (n + 1) q2 ∧ Tab w' (w.heap.size + 1 + 1) (w.heap.size + 1 + 1 + 1) f (fun j => if j = sv then .slice A2 (n + 1) q2 else f j) (fun j => if j = sv then (listOf miss hs (preM a b x)) sv ++ [(mk3 a b x)] else (listOf miss hs (preM a b x)) j)
          | 9 => xq 72 = .pointer (some ⟨w.heap.size + 1 + 1, sv, none⟩)
          | 10 => ∃ fg, Tab w' (w.heap.size + 1 + 1) (w.heap.size + 1 + 1 + 1) fg fg (fun j => if j = sv then (listOf miss hs (preM a b x)) sv ++ [(mk3 a b x)] else (listOf miss hs (preM a b x)) j)
          | 11 => Tab w' (w.heap.size + 1 + 1) (w.heap.size + 1 + 1 + 1) f f (listOf miss hs (preM a b x))
          | 12 => Holds w' (wc.heap.size) 28 #[.int .i64 (a : Int), .int .i64 (b : Int), .int .i64 (x : Int), .int .i64 (40 - (a : Int) - (b : Int) - (x : Int))]
          | _ => True) [[63], [64], [65], [66], [67], [68], [69], [70], [71], [72], [], [], []] [(8, 7), (8, 11), (8, 12), (10, 7), (10, 8), (10, 11), (10, 12)] (fun w' => Below (w.heap.size + 1 + 1) wd w') (by kernel_rfl)  ?_ ?_ (fun w' w'' hb h => h.trans (hb.mono (Nat.le_trans (Nat.le_of_lt lOd.out) h.size))) (Below.refl _ _) ?_ ?_ ?_
         ·intro jq xq xq' wqq h hv
          match jq, h, hv with
          | 0, h, hv => show xq' 63 = .slice (some ⟨w.heap.size + 1 + 1, 0, none⟩) 64 64; rw [← h 63 (by decide)]; exact hv
          | 1, h, hv => show xq' 64 = .int .i64 (sv : Int); rw [← h 64 (by decide)]; exact hv
          | 2, h, hv => show xq' 65 = .slice (some ⟨w.heap.size + 1 + 1, 0, none⟩) 64 64; rw [← h 65 (by decide)]; exact hv
          | 3, h, hv => show xq' 66 = .int .i64 (sv : Int); rw [← h 66 (by decide)]; exact hv
          | 4, h, hv => show xq' 67 = .pointer (some ⟨w.heap.size + 1 + 1, sv, none⟩); rw [← h 67 (by decide)]; exact hv
          | 5, h, hv => show xq' 68 = .slice A0 n q0; rw [← h 68 (by decide)]; exact hv
          | 6, h, hv => show xq' 69 = .agg #[.int .i64 (a : Int), .int .i64 (b : Int), .int .i64 (x : Int), .int .i64 (40 - (a : Int) - (b : Int) - (x : Int))]; rw [← h 69 (by decide)]; exact hv
          | 7, h, hv => show ∃ bb, xq' 70 = .slice (some ⟨bb, 0, none⟩) 1 1 ∧ Holds wqq bb 28 #[.int .i64 (a : Int), .int .i64 (b : Int), .int .i64 (x : Int), .int .i64 (40 - (a : Int) - (b : Int) - (x : Int))]; rw [← h 70 (by decide)]; exact hv
          | 8, h, hv => show ∃ A2 q2, xq' 71 = .slice A2 (n + 1) q2 ∧ Tab wqq (w.heap.size + 1 + 1) (w.heap.size + 1 + 1 + 1) f (fun j => if j = sv then .slice A2 (n + 1) q2 else f j) (fun j => if j = sv then (listOf miss hs (preM a b x)) sv ++ [(mk3 a b x)] else (listOf miss hs (preM a b x)) j); rw [← h 71 (by decide)]; exact hv
          | 9, h, hv => show xq' 72 = .pointer (some ⟨w.heap.size + 1 + 1, sv, none⟩); rw [← h 72 (by decide)]; exact hv
          | 10, h, hv => exact hv
          | 11, h, hv => exact hv
          | 12, h, hv => exact hv
          | _ + 13, _, _ => trivial
         ·intro jq xq wqq w' hb' hv
          match jq, hv with
          | 0, hv => exact hv
          | 1, hv => exact hv
          | 2, hv => exact hv
          | 3, hv => exact hv
          | 4, hv => exact hv
          | 5, hv => exact hv
          | 6, hv => exact hv
          | 7, ⟨b0, h0, h1⟩ => exact ⟨b0, h0, h1.up hb'⟩
          | 8, ⟨b0, b1, h0, h1⟩ => exact ⟨b0, b1, h0, h1.up hb'⟩
          | 9, hv => exact hv
          | 10, ⟨b0, h0⟩ => exact ⟨b0, h0.up hb'⟩
          | 11, h0 => exact h0.up hb'
          | 12, h0 => exact h0.up hb'
          | _ + 13, _ => trivial
         ·intro jq hj
          match jq, hj with
          | 0, hj => exact absurd hj (by decide)
          | 1, hj => exact absurd hj (by decide)
          | 2, hj => exact absurd hj (by decide)
          | 3, hj => exact absurd hj (by decide)
          | 4, hj => exact absurd hj (by decide)
          | 5, hj => exact absurd hj (by decide)
          | 6, hj => exact absurd hj (by decide)
          | 7, hj => exact absurd hj (by decide)
          | 8, hj => exact absurd hj (by decide)
          | 9, hj => exact absurd hj (by decide)
          | 10, hj => exact absurd hj (by decide)
          | 11, _ => exact HTBd.out
          | 12, _ => exact HM.out
          | _ + 13, _ => trivial
         ·refine ⟨?_, ?_, ?_, ?_, ?_, ?_, ?_, ?_, ?_, ?_, ?_, trivial⟩
          ·intro xq w1 hb1 hx K hK0
           have hK := fun v w' hb => hK0 v w' (.inl hb)
           clear hx hKc hK0
           simp only [frameOf, fill, setSlot, sg, Nat.reduceBEq, if_true, if_false, Nat.reduceAdd, Nat.reduceEqDiff, HSL.out] at hK ⊢
           go_wp2_with (fail)
           exact hK _ _ (Below.refl _ _) rfl
          ·intro xq w1 hb1 hx K hK0
           have hK := fun v w' hb => hK0 v w' (.inl hb)
           clear hx hKc hK0
           simp only [frameOf, fill, setSlot, sg, Nat.reduceBEq, if_true, if_false, Nat.reduceAdd, Nat.reduceEqDiff, HSL.out] at hK ⊢
           go_wp2_with (fail)
           exact hK _ _ (Below.refl _ _) rfl
          ·intro xq w1 hb1 hx K hK0
           have hK := fun v w' hb => hK0 v w' (.inl hb)
           clear hx hKc hK0
           simp only [frameOf, fill, setSlot, sg, Nat.reduceBEq, if_true, if_false, Nat.reduceAdd, Nat.reduceEqDiff, HSL.out] at hK ⊢
           go_wp2_with (fail)
           exact hK _ _ (Below.refl _ _) rfl
          ·intro xq w1 hb1 hx K hK0
           have hK := fun v w' hb => hK0 v w' (.inl hb)
           clear hx hKc hK0
           simp only [frameOf, fill, setSlot, sg, Nat.reduceBEq, if_true, if_false, Nat.reduceAdd, Nat.reduceEqDiff, HSL.out] at hK ⊢
           go_wp2_with (fail)
           exact hK _ _ (Below.refl _ _) rfl
          ·intro xq w1 hb1 hx K hK0
           have hK := fun v w' hb => hK0 v w' (.inl hb)
           have e65 : xq 65 = .slice (some ⟨w.heap.size + 1 + 1, 0, none⟩) 64 64 := hx 2 (by rfl) (by rfl)
           have e66 : xq 66 = .int .i64 (sv : Int) := hx 3 (by rfl) (by rfl)
           clear hx hKc hK0
           have hs1 : w.heap.size + 1 + 1 + 1 ≤ w1.heap.size := Nat.le_trans lOd.out hb1.size
           have hsI : (sv : Int) < 64 := by omega
           simp only [frameOf, fill, setSlot, sg, Nat.reduceBEq, if_true, if_false, Nat.reduceAdd, Nat.reduceEqDiff, HSL.out] at hK ⊢
           simp only [e65, e66] at hK ⊢
           clear e65 e66
           go_wp2_with (fail)
           exact hK _ _ (Below.refl _ _) rfl
          ·intro xq w1 hb1 hx K hK0
           have hK := fun v w' hb => hK0 v w' (.inl hb)
           have e67 : xq 67 = .pointer (some ⟨w.heap.size + 1 + 1, sv, none⟩) := hx 4 (by rfl) (by rfl)
           have fit_0 : Tab w1 (w.heap.size + 1 + 1) (w.heap.size + 1 + 1 + 1) f f (listOf miss hs (preM a b x)) := hx 11 (by rfl) (by rfl)
           clear hx hKc hK0
           have ks : w1.cell? ⟨w.heap.size + 1 + 1, sv, none⟩ = some (.slice A0 n q0) := (fit_0.1.cell hs64).trans (congrArg some HFS.out)
           simp only [frameOf, fill, setSlot, sg, Nat.reduceBEq, if_true, if_false, Nat.reduceAdd, Nat.reduceEqDiff, HSL.out] at hK ⊢
           simp only [e67] at hK ⊢
           clear e67
           go_wp2_with (fail)
           exact hK _ _ (Below.refl _ _) rfl
          ·intro xq w1 hb1 hx K hK0
           have hK := fun v w' hb => hK0 v w' (.inl hb)
           have fim_0 : Holds w1 (wc.heap.size) 28 #[.int .i64 (a : Int), .int .i64 (b : Int), .int .i64 (x : Int), .int .i64 (40 - (a : Int) - (b : Int) - (x : Int))] := hx 12 (by rfl) (by rfl)
           clear hx hKc hK0
           obtain ⟨km0, km1, km2⟩ := fim_0.c3
           have km3 : w1.cell? ⟨wc.heap.size, 3, none⟩ = some (.int .i64 (40 - (a : Int) - (b : Int) - (x : Int))) := fim_0.cell 3
           simp only [frameOf, fill, setSlot, sg, Nat.reduceBEq, if_true, if_false, Nat.reduceAdd, Nat.reduceEqDiff, HSL.out] at hK ⊢
           go_wp2_with (fail)
           exact hK _ _ (Below.refl _ _) rfl
          ·intro xq w1 hb1 hx K hK0
           have hK := fun v w' hb => hK0 v w' (.inl hb)
           have e69 : xq 69 = .agg #[.int .i64 (a : Int), .int .i64 (b : Int), .int .i64 (x : Int), .int .i64 (40 - (a : Int) - (b : Int) - (x : Int))] := hx 6 (by rfl) (by rfl)
           clear hx hKc hK0
           simp only [frameOf, fill, setSlot, sg, Nat.reduceBEq, if_true, if_false, Nat.reduceAdd, Nat.reduceEqDiff, HSL.out] at hK ⊢
           simp only [e69] at hK ⊢
           clear e69
           go_wp2_with (fail)
           exact hK _ _ ((Below.refl _ _).alloc (Nat.le_refl _) _) ⟨_, rfl, Holds.new _ _ _⟩
          ·intro xq w1 hb1 hx K hK0
           have hK := fun v w' hb => hK0 v w' (.inr hb)
           have e68 : xq 68 = .slice A0 n q0 := hx 5 (by rfl) (by rfl)
           obtain ⟨bb70, e70, f70_0⟩ := hx 7 (by rfl) (by rfl)
           have fit_0 : Tab w1 (w.heap.size + 1 + 1) (w.heap.size + 1 + 1 + 1) f f (listOf miss hs (preM a b x)) := hx 11 (by rfl) (by rfl)
           clear hx hKc hK0
           have hs1 : w.heap.size + 1 + 1 + 1 ≤ w1.heap.size := Nat.le_trans lOd.out hb1.size
           have hsI : (sv : Int) < 64 := by omega
           have hos := fit_0.2.1 sv hs64
           rw [HFS.out, ← HN.out] at hos
           obtain ⟨v3, w3, hrun, hown3, hgr3, _⟩ := run_append_own (P := Try.prog) w1 (w.heap.size + 1 + 1 + 1) 77 77 28 ti _ 4 32 und_fours hti hti0 hti1 hti2 rfl (by decide) (.slice A0 n q0) n _ hos ⟨bb70, 0, none⟩ 1 1 (mk3 a b x).cells rfl (holds_news f70_0) (mx_one _) (by unfold maxLen; omega) (by omega) hs1
           have hblk := append_block (w.heap.size + 1 + 1 + 1) 77 77 28 ti _ 4 32 und_fours hti hti0 hti1 hti2 rfl (by decide) (.slice A0 n q0) n _ hos ⟨bb70, 0, none⟩ 1 1 (mk3 a b x).cells rfl (holds_news f70_0) (mx_one _) (by unfold maxLen; omega) (by omega) hrun
           have hT5 := fit_0.append (Nat.lt_succ_self _) hs64 (by rw [← HN.out]; exact hown3) (by rw [HFS.out]; exact hgr3) (by rw [HFS.out]; exact hblk)
           obtain ⟨A5, c5, rfl, _⟩ := rk_val hown3
           have HT5 := Lib.hid hT5
           have HG5 := Lib.hid hgr3
           have HOS := Lib.hid hos
           have HRUN := hrun
           have HTB1 := Lib.hid fit_0
           clear hT5 hgr3 hos hown3 hblk hrun
           simp only [frameOf, fill, setSlot, sg, Nat.reduceBEq, if_true, if_false, Nat.reduceAdd, Nat.reduceEqDiff, HSL.out] at hK ⊢
           simp only [e68, e70] at hK ⊢
           clear e68 e70
           go_wp2_with (at_builtin; (refine wpList_append_run _ rfl _ _ _ _ rfl _ _ rfl rfl HRUN ?_))
           refine hK _ _ ⟨(hb1.trans (Below.grown (Below.refl _ _) HG5.out (by omega) (fun k hk => Nat.le_trans (by omega) ((HOS.out.lt k hk).1)))), ?_⟩ ⟨_, _, rfl, HT5.out⟩
           intro jq xq hd hne hv
           match jq, hd, hne, hv with
           | 0, _, _, hv => exact hv
           | 1, _, _, hv => exact hv
           | 2, _, _, hv => exact hv
           | 3, _, _, hv => exact hv
           | 4, _, _, hv => exact hv
           | 5, _, _, hv => exact hv
           | 6, _, _, hv => exact hv
           | 7, hd, _, _ => exact absurd hd (by decide)
           | 8, _, hne, _ => exact absurd rfl hne
           | 9, _, _, hv => exact hv
           | 10, _, _, hv => obtain ⟨fg, hfg⟩ := hv; exact (Tab.clash HTB1.out hfg hs64 HFS.out (by simp only [if_true]; rw [List.length_append, ← HN.out]; rfl)).elim
           | 11, hd, _, _ => exact absurd hd (by decide)
           | 12, hd, _, _ => exact absurd hd (by decide)
           | _ + 13, _, _, _ => trivial
          ·intro xq w1 hb1 hx K hK0
           have hK := fun v w' hb => hK0 v w' (.inl hb)
           have e63 : xq 63 = .slice (some ⟨w.heap.size + 1 + 1, 0, none⟩) 64 64 := hx 0 (by rfl) (by rfl)
           have e64 : xq 64 = .int .i64 (sv : Int) := hx 1 (by rfl) (by rfl)
           clear hx hKc hK0
           have hs1 : w.heap.size + 1 + 1 + 1 ≤ w1.heap.size := Nat.le_trans lOd.out hb1.size
           have hsI : (sv : Int) < 64 := by omega
           simp only [frameOf, fill, setSlot, sg, Nat.reduceBEq, if_true, if_false, Nat.reduceAdd, Nat.reduceEqDiff, HSL.out] at hK ⊢
           simp only [e63, e64] at hK ⊢
           clear e63 e64
           go_wp2_with (fail)
           exact hK _ _ (Below.refl _ _) rfl
          ·intro xq w1 hb1 hx K hK0
           have hK := fun v w' hb => hK0 v w' (.inr hb)
           obtain ⟨A271, q271, e71, f71_0⟩ := hx 8 (by rfl) (by rfl)
           have e72 : xq 72 = .pointer (some ⟨w.heap.size + 1 + 1, sv, none⟩) := hx 9 (by rfl) (by rfl)
           clear hx hKc hK0
           have ks : w1.cell? ⟨w.heap.size + 1 + 1, sv, none⟩ = some (f sv) := f71_0.1.cell hs64
           have zs : w1.frozen? ⟨w.heap.size + 1 + 1, sv, none⟩ = false := f71_0.1.frozen sv
           rw [HFS.out] at ks
           have hOl := f71_0.1.lt
           simp only [frameOf, fill, setSlot, sg, Nat.reduceBEq, if_true, if_false, Nat.reduceAdd, Nat.reduceEqDiff, HSL.out] at hK ⊢
           have E71 := Lib.hid e71
           have E72 := Lib.hid e72
           simp only [e71, e72] at hK ⊢
           clear e71 e72
           go_wp2_with (fail)
           refine hK undef _ ⟨(hb1.trans (Below.setCell (p := ⟨w.heap.size + 1 + 1, sv, none⟩) (Below.refl _ _) (Nat.le_refl _) _)), ?_⟩ ⟨_, Tab.store f71_0 (Nat.lt_succ_self _)⟩
           intro jq xq hd hne hv
           match jq, hd, hne, hv with
           | 0, _, _, hv => exact hv
           | 1, _, _, hv => exact hv
           | 2, _, _, hv => exact hv
           | 3, _, _, hv => exact hv
           | 4, _, _, hv => exact hv
           | 5, _, _, hv => exact hv
           | 6, _, _, hv => exact hv
           | 7, hd, _, _ => exact absurd hd (by decide)
           | 8, hd, _, _ => exact absurd hd (by decide)
           | 9, _, _, hv => exact hv
           | 10, _, hne, _ => exact absurd rfl hne
           | 11, hd, _, _ => exact absurd hd (by decide)
           | 12, hd, _, _ => exact absurd hd (by decide)
           | _ + 13, _, _, _ => trivial
         ·intro xq w1 hb1 hx
          have e63 : xq 63 = .slice (some ⟨w.heap.size + 1 + 1, 0, none⟩) 64 64 := hx 0 (by decide)
          have e64 : xq 64 = .int .i64 (sv : Int) := hx 1 (by decide)
          have e65 : xq 65 = .slice (some ⟨w.heap.size + 1 + 1, 0, none⟩) 64 64 := hx 2 (by decide)
          have e66 : xq 66 = .int .i64 (sv : Int) := hx 3 (by decide)
          have e67 : xq 67 = .pointer (some ⟨w.heap.size + 1 + 1, sv, none⟩) := hx 4 (by decide)
          have e68 : xq 68 = .slice A0 n q0 := hx 5 (by decide)
          have e69 : xq 69 = .agg #[.int .i64 (a : Int), .int .i64 (b : Int), .int .i64 (x : Int), .int .i64 (40 - (a : Int) - (b : Int) - (x : Int))] := hx 6 (by decide)
          have e72 : xq 72 = .pointer (some ⟨w.heap.size + 1 + 1, sv, none⟩) := hx 9 (by decide)
          obtain ⟨fgn10, fn10_0⟩ := hx 10 (by decide)
          clear hx
          simp only [frameOf, fill, setSlot, sg, Nat.reduceBEq, if_true, if_false, Nat.reduceAdd, Nat.reduceEqDiff, HSL.out]
          simp only [e63, e64, e65, e66, e67, e68, e69, e72]
          clear e63 e64 e65 e66 e67 e68 e69 e72
          have HR := Lib.hid hb1
          have HTN := Lib.hid (fn10_0.congr (L' := listOf miss hs (preM a b (x + 1))) (list_next HSV.out.symm))
          have HBN := Lib.hid ((HBc.out.trans (HBd.out.mono hzc)).trans (hb1.mono (by omega)))
          have HGn := Lib.hid (HGd.out.low hb1 (by omega))
          have HCn := Lib.hid (HCd.out.low hb1 (by omega))
          clear hb1 fn10_0
          go_wp2_with fail
          go_roundw
          case rel => exact ⟨x + 1, _, by go_num, by omega, (by have h := HGn.out; exact zp4), (by have h := HCn.out; exact zp4), HTN.out, HBN.out⟩
          case measure => first | (simp [intOf]; done) | (simp [intOf]; omega)
      ·have hlt3' : ¬ (a : Int) + (b : Int) + (x : Int) ≤ 40 := by omega
       have hx41 : x = 41 - a - b := by omega
       have HTN := Lib.hid (HTBc.out.congr (L' := listOf miss hs (preM a (b + 1) 0)) (fun s => by rw [hx41, pre_b]))
       clear hx41
       go_wp2_with fail
       go_roundw
       case rel => exact ⟨b + 1, f, by go_num, by omega, (by have h := HGc.out; exact zp4), (by have h := HCc.out; exact zp4), HTN.out, HBc.out⟩
       case measure => first | (simp [intOf]; done) | (simp [intOf]; omega)
    ·have hlt2' : ¬ (a : Int) + (b : Int) ≤ 40 := by omega
     have hb41 : b = 41 - a := by omega
     have HTN := Lib.hid (HTBb.out.congr (L' := listOf miss hs (preM (a + 1) 0 0)) (fun s => by rw [hb41, pre_a]))
     clear hb41
     go_wp2_with fail
     go_roundw
     case rel => exact ⟨a + 1, f, by go_num, by omega, (by have h := HGb.out; exact zp4), (by have h := HCb.out; exact zp4), HTN.out, HBb.out⟩
     case measure => first | (simp [intOf]; done) | (simp [intOf]; omega)
  ·have hlt' : ¬ (a : Int) ≤ 40 := by omega
   obtain rfl : a = 41 := by omega
   go_wp2_with fail
   go_ret
   exact ⟨rfl, ⟨f, HTBa.out⟩, HBa.out⟩
end Go.Proofs.Ytifffonoipapgaa
