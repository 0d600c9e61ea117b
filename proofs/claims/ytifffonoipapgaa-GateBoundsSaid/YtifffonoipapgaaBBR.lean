
import Derived.Test.YtifffonoipapgaaLAA
import Derived.Test.YtifffonoipapgaaBAC
import Derived.Test.YtifffonoipapgaaBBM
import Derived.Test.YtifffonoipapgaaBBQ
set_option linter.unusedSimpArgs false
set_option linter.unusedVariables false
namespace Go.Proofs.Ytifffonoipapgaa
open Go.RowKit
theorem fitK_let {miss n g x : Int} (hn : 0 < n) (h0 : 0 ≤ x) (h1 : x ≤ 40) : fitK miss n g x = (decide (letLo miss n g ≤ x) && decide (x ≤ letHi miss n g)) := by
 have := let_iff (miss := miss) (g := g) hn h0 h1
 unfold fitsK at this
 unfold fitK
 by_cases h2 : letLo miss n g ≤ x ∧ x ≤ letHi miss n g
 ·obtain ⟨h3, h4⟩ := this.1 h2
  rw [decide_eq_true h3, decide_eq_true h4, decide_eq_true h2.1, decide_eq_true h2.2]
 ·have h3 : ¬ (x * n - 40 * g ≤ 40 * miss ∧ 40 * g - x * n ≤ 40 * miss) := fun h => h2 (this.2 h)
  rw [← Bool.decide_and, ← Bool.decide_and, decide_eq_false h2, decide_eq_false h3]
def letsRes (miss : Int) (y : Hf) (k : Nat) : Value := if none01 (letLo miss y.sum (gat y.g0 y.g1 y.g2 y.g3 k)) (letHi miss y.sum (gat y.g0 y.g1 y.g2 y.g3 k)) then .tuple #[.agg #[.int .i64 0, .int .i64 0], .bool false] else .tuple #[.agg #[.int .i64 (letLo miss y.sum (gat y.g0 y.g1 y.g2 y.g3 k)), .int .i64 (letHi miss y.sum (gat y.g0 y.g1 y.g2 y.g3 k))], .bool true]
set_option maxRecDepth 100000 in
set_option maxHeartbeats 8000000 in
theorem refLets_any (err miss : Int) (G : Option Addr) (gl d : Nat) (y : Hf) (k : Nat) (hk : k < 4) (i0 : 0 ≤ miss) (i1 : miss ≤ 20) (ht : y.taken = true) (hn : 0 < y.sum) (w : World) :
  Calls Try.prog 32 #[.agg #[.int .i64 err, .int .i64 miss, .slice G gl d], .agg #[.int .i64 y.spot, .int .i64 y.g0, .int .i64 y.g1, .int .i64 y.g2, .int .i64 y.g3], .int .i64 (k : Int)] w fun e w' => e = .returned (letsRes miss y k) ∧ Below w.heap.size w w' := by
 have HT := Lib.hid ht
 obtain ⟨lo, hlo⟩ : ∃ z, z = letLo miss y.sum (gat y.g0 y.g1 y.g2 y.g3 k) := ⟨_, rfl⟩
 obtain ⟨up, hup⟩ : ∃ z, z = letHi miss y.sum (gat y.g0 y.g1 y.g2 y.g3 k) := ⟨_, rfl⟩
 obtain ⟨F, hF⟩ : ∃ F : Int → Bool, F = fun x => fitK miss y.sum (gat y.g0 y.g1 y.g2 y.g3 k) x := ⟨_, rfl⟩
 have HFE : Hid (∀ x, fitK miss y.sum (gat y.g0 y.g1 y.g2 y.g3 k) x = F x) := Lib.hid (fun x => by rw [hF])
 have HF : Hid (∀ x : Int, 0 ≤ x → x ≤ 40 → F x = (decide (lo ≤ x) && decide (x ≤ up))) := Lib.hid (fun x h0 h1 => by rw [hF, hlo, hup]; exact fitK_let hn h0 h1)
 have hok : okSpan lo up := hlo ▸ hup ▸ let_ok miss y.sum _
 have hq : letsRes miss y k = if none01 lo up then .tuple #[.agg #[.int .i64 0, .int .i64 0], .bool false] else .tuple #[.agg #[.int .i64 lo, .int .i64 up], .bool true] := by rw [letsRes, ← hlo, ← hup]
 rw [hq]
 clear hq hlo hup hF ht hn
 by_cases hno : none01 lo up = true
 ·rw [if_pos hno]
  go_enter Try.func32, Try.ntmps32
  go_wp2_with fail
  go_loopw [9, 10] (fun v9 v10 wr => ∃ x : Nat, v10 = .int .i64 (x : Int) ∧ x ≤ 41 ∧ v9 = .bool false ∧ Holds wr (w.heap.size + 1 + 1 + 1) 60 #[.int .i64 0, .int .i64 0] ∧ Holds wr (w.heap.size) 49 #[.int .i64 err, .int .i64 miss, .slice G gl d] ∧ Holds wr (w.heap.size + 1) 42 #[.int .i64 y.spot, .int .i64 y.g0, .int .i64 y.g1, .int .i64 y.g2, .int .i64 y.g3] ∧ Holds wr (w.heap.size + 1 + 1) 60 #[.int .i64 0, .int .i64 0] ∧ Below w.heap.size w wr) (fun _ v10 _ => 41 - (intOf v10).toNat)
  case atStart => exact ⟨0, rfl, by decide, rfl, by (repeat first | (with_reducible first | assumption | apply Holds.set2 | apply Holds.set4 | apply Holds.putL | ((refine Holds.new' _ _ ?_); (simp; done)) | refine Holds.alloc ?_ _ | refine Holds.drew ?_ | refine Holds.far ?_ (by simp only [ne_eq]; omega) _) | rfl), by (repeat first | (with_reducible first | assumption | apply Holds.set2 | apply Holds.set4 | apply Holds.putL | ((refine Holds.new' _ _ ?_); (simp; done)) | refine Holds.alloc ?_ _ | refine Holds.drew ?_ | refine Holds.far ?_ (by simp only [ne_eq]; omega) _) | rfl), by (repeat first | (with_reducible first | assumption | apply Holds.set2 | apply Holds.set4 | apply Holds.putL | ((refine Holds.new' _ _ ?_); (simp; done)) | refine Holds.alloc ?_ _ | refine Holds.drew ?_ | refine Holds.far ?_ (by simp only [ne_eq]; omega) _) | rfl), by (repeat first | (with_reducible first | assumption | apply Holds.set2 | apply Holds.set4 | apply Holds.putL | ((refine Holds.new' _ _ ?_); (simp; done)) | refine Holds.alloc ?_ _ | refine Holds.drew ?_ | refine Holds.far ?_ (by simp only [ne_eq]; omega) _) | rfl), zg⟩
  case round =>
   obtain ⟨x, rfl, hx, rfl, Ho, Hg, Hy, Hr, hB⟩ := hrel
   have HG := Lib.hid Hg
   have HY := Lib.hid Hy
   have HR := Lib.hid Hr
   have HB := Lib.hid hB
   clear Hg Hy Hr hB
   by_cases hlt : x ≤ 40
   ·have HO := Lib.hid Ho
    have lo_ := Ho.lt
    clear Ho
    have hx' : (x : Int) ≤ 40 := by omega
    have HV : Hid (F (x : Int) = false) := Lib.hid (by have hn := hno; simp only [none01, Bool.and_eq_true, beq_iff_eq] at hn; rw [HF.out _ (by omega) (by omega), Bool.and_eq_false_iff, decide_eq_false_iff_not, decide_eq_false_iff_not]; omega)
    obtain ⟨kg0, kg1, kg2⟩ := HG.out.c3
    obtain ⟨ky0, ky1, ky2, ky3, ky4⟩ := HY.out.c5
    go_wp2_with (go_at_call 95; refine (refLet_any err miss G gl d y k hk (x : Int) (by omega) (by omega) i0 i1 HT.out _).mono ?_; rw [HFE.out, HV.out]; rintro e w2_ ⟨rfl, hb_⟩; have HB2 := Lib.hid hb_; clear hb_)
    have HO2 := Lib.hid (HO.out.up HB2.out)
    have HG2 := Lib.hid (HG.out.up HB2.out)
    have HY2 := Lib.hid (HY.out.up HB2.out)
    have HR2 := Lib.hid (HR.out.up HB2.out)
    have HBB := Lib.hid (HB.out.trans (HB2.out.mono HB.out.size))
    go_roundw
    case rel => exact ⟨x + 1, by go_num, by omega, rfl, (by have h := HO2.out; exact zp8), (by have h := HG2.out; exact zp8), (by have h := HY2.out; exact zp8), (by have h := HR2.out; exact zp8), HBB.out.trans zg⟩
    case measure => first | (simp [intOf]; done) | (simp [intOf]; omega)
   ·have HO := Lib.hid Ho
    have lo_ := Ho.lt
    clear Ho
    have hx41 : x = 41 := by omega
    subst hx41
    obtain ⟨ko0, ko1⟩ := HO.out.c2
    obtain ⟨kr0, kr1⟩ := HR.out.c2
    obtain ⟨zr0, zr1⟩ := HR.out.f2
    have lr := HR.out.lt
    go_wp2_with fail
    refine ret_cell2 (t := 60) rfl rfl rfl ?_ Try.underlying60 rfl (by kernel_rfl) rfl ⟨rfl, HB.out.trans zg⟩
    exact (by have h := HR.out; exact zp8)
 ·rw [if_neg hno]
  have hlu : 0 ≤ lo ∧ lo ≤ up ∧ up ≤ 40 := by unfold okSpan at hok; simp only [none01, Bool.and_eq_true, beq_iff_eq, not_and] at hno; omega
  go_enter Try.func32, Try.ntmps32
  go_wp2_with fail
  go_loopw [9, 10] (fun v9 v10 wr => ∃ x : Nat, v10 = .int .i64 (x : Int) ∧ x ≤ 41 ∧ ((v9 = .bool false ∧ (x : Int) ≤ lo ∧ Holds wr (w.heap.size + 1 + 1 + 1) 60 #[.int .i64 0, .int .i64 0]) ∨ ∃ u : Int, v9 = .bool true ∧ lo < (x : Int) ∧ (u = (x : Int) - 1 ∨ u = up ∧ up < (x : Int)) ∧ u ≤ up ∧ Holds wr (w.heap.size + 1 + 1 + 1) 60 #[.int .i64 lo, .int .i64 u]) ∧ Holds wr (w.heap.size) 49 #[.int .i64 err, .int .i64 miss, .slice G gl d] ∧ Holds wr (w.heap.size + 1) 42 #[.int .i64 y.spot, .int .i64 y.g0, .int .i64 y.g1, .int .i64 y.g2, .int .i64 y.g3] ∧ Holds wr (w.heap.size + 1 + 1) 60 #[.int .i64 0, .int .i64 0] ∧ Below w.heap.size w wr) (fun _ v10 _ => 41 - (intOf v10).toNat)
  case atStart => exact ⟨0, rfl, by decide, .inl ⟨rfl, by omega, by (repeat first | (with_reducible first | assumption | apply Holds.set2 | apply Holds.set4 | apply Holds.putL | ((refine Holds.new' _ _ ?_); (simp; done)) | refine Holds.alloc ?_ _ | refine Holds.drew ?_ | refine Holds.far ?_ (by simp only [ne_eq]; omega) _) | rfl)⟩, by (repeat first | (with_reducible first | assumption | apply Holds.set2 | apply Holds.set4 | apply Holds.putL | ((refine Holds.new' _ _ ?_); (simp; done)) | refine Holds.alloc ?_ _ | refine Holds.drew ?_ | refine Holds.far ?_ (by simp only [ne_eq]; omega) _) | rfl), by (repeat first | (with_reducible first | assumption | apply Holds.set2 | apply Holds.set4 | apply Holds.putL | ((refine Holds.new' _ _ ?_); (simp; done)) | refine Holds.alloc ?_ _ | refine Holds.drew ?_ | refine Holds.far ?_ (by simp only [ne_eq]; omega) _) | rfl), by (repeat first | (with_reducible first | assumption | apply Holds.set2 | apply Holds.set4 | apply Holds.putL | ((refine Holds.new' _ _ ?_); (simp; done)) | refine Holds.alloc ?_ _ | refine Holds.drew ?_ | refine Holds.far ?_ (by simp only [ne_eq]; omega) _) | rfl), zg⟩
  case round =>
   obtain ⟨x, rfl, hx, hst, Hg, Hy, Hr, hB⟩ := hrel
   have HG := Lib.hid Hg
   have HY := Lib.hid Hy
   have HR := Lib.hid Hr
   have HB := Lib.hid hB
   clear Hg Hy Hr hB
   by_cases hlt : x ≤ 40
   ·rcases hst with ⟨rfl, hxl, Ho⟩ | ⟨u, rfl, hxl, hu, huu, Ho⟩
    ·have HO := Lib.hid Ho
     have lo_ := Ho.lt
     clear Ho
     by_cases hl : lo ≤ (x : Int)
     ·have HV : Hid (F (x : Int) = true) := Lib.hid (by rw [HF.out _ (by omega) (by omega)]; simp only [Bool.and_eq_true, Bool.and_eq_false_iff, decide_eq_true_eq, decide_eq_false_iff_not]; omega)
      have hx' : (x : Int) ≤ 40 := by omega
      obtain ⟨kg0, kg1, kg2⟩ := HG.out.c3
      obtain ⟨ky0, ky1, ky2, ky3, ky4⟩ := HY.out.c5
      go_wp2_with (go_at_call 95; refine (refLet_any err miss G gl d y k hk (x : Int) (by omega) (by omega) i0 i1 HT.out _).mono ?_; rw [HFE.out, HV.out]; rintro e w2_ ⟨rfl, hb_⟩; have HB2 := Lib.hid hb_; clear hb_; have HO2 := Lib.hid (HO.out.up HB2.out); have ko0w2 : w2_.cell? ⟨w.heap.size + 1 + 1 + 1, 0, none⟩ = some (.int .i64 0) := HO2.out.cell 0; have ko1w2 : w2_.cell? ⟨w.heap.size + 1 + 1 + 1, 1, none⟩ = some (.int .i64 0) := HO2.out.cell 1; have zo0w2 : w2_.frozen? ⟨w.heap.size + 1 + 1 + 1, 0, none⟩ = false := HO2.out.frozen 0; have zo1w2 : w2_.frozen? ⟨w.heap.size + 1 + 1 + 1, 1, none⟩ = false := HO2.out.frozen 1; have lo2 := HO2.out.lt)
      have HG2 := Lib.hid (HG.out.up HB2.out)
      have HY2 := Lib.hid (HY.out.up HB2.out)
      have HR2 := Lib.hid (HR.out.up HB2.out)
      have HBB := Lib.hid (HB.out.trans (HB2.out.mono HB.out.size))
      go_roundw
      case rel => exact ⟨x + 1, by go_num, by omega, .inr ⟨(x : Int), rfl, by omega, .inl (by omega), by omega, (by have h := HO2.out; have e : lo = (x : Int) := (by omega); rw [e]; exact zp8)⟩, (by have h := HG2.out; exact zp8), (by have h := HY2.out; exact zp8), (by have h := HR2.out; exact zp8), HBB.out.trans zg⟩
      case measure => first | (simp [intOf]; done) | (simp [intOf]; omega)
     ·have HV : Hid (F (x : Int) = false) := Lib.hid (by rw [HF.out _ (by omega) (by omega)]; simp only [Bool.and_eq_true, Bool.and_eq_false_iff, decide_eq_true_eq, decide_eq_false_iff_not]; omega)
      have hx' : (x : Int) ≤ 40 := by omega
      obtain ⟨kg0, kg1, kg2⟩ := HG.out.c3
      obtain ⟨ky0, ky1, ky2, ky3, ky4⟩ := HY.out.c5
      go_wp2_with (go_at_call 95; refine (refLet_any err miss G gl d y k hk (x : Int) (by omega) (by omega) i0 i1 HT.out _).mono ?_; rw [HFE.out, HV.out]; rintro e w2_ ⟨rfl, hb_⟩; have HB2 := Lib.hid hb_; clear hb_; have HO2 := Lib.hid (HO.out.up HB2.out); have ko0w2 : w2_.cell? ⟨w.heap.size + 1 + 1 + 1, 0, none⟩ = some (.int .i64 0) := HO2.out.cell 0; have ko1w2 : w2_.cell? ⟨w.heap.size + 1 + 1 + 1, 1, none⟩ = some (.int .i64 0) := HO2.out.cell 1; have zo0w2 : w2_.frozen? ⟨w.heap.size + 1 + 1 + 1, 0, none⟩ = false := HO2.out.frozen 0; have zo1w2 : w2_.frozen? ⟨w.heap.size + 1 + 1 + 1, 1, none⟩ = false := HO2.out.frozen 1; have lo2 := HO2.out.lt)
      have HG2 := Lib.hid (HG.out.up HB2.out)
      have HY2 := Lib.hid (HY.out.up HB2.out)
      have HR2 := Lib.hid (HR.out.up HB2.out)
      have HBB := Lib.hid (HB.out.trans (HB2.out.mono HB.out.size))
      go_roundw
      case rel => exact ⟨x + 1, by go_num, by omega, .inl ⟨rfl, by omega, (by have h := HO2.out; exact zp8)⟩, (by have h := HG2.out; exact zp8), (by have h := HY2.out; exact zp8), (by have h := HR2.out; exact zp8), HBB.out.trans zg⟩
      case measure => first | (simp [intOf]; done) | (simp [intOf]; omega)
    ·have HO := Lib.hid Ho
     have lo_ := Ho.lt
     clear Ho
     by_cases hl : (x : Int) ≤ up
     ·have HV : Hid (F (x : Int) = true) := Lib.hid (by rw [HF.out _ (by omega) (by omega)]; simp only [Bool.and_eq_true, Bool.and_eq_false_iff, decide_eq_true_eq, decide_eq_false_iff_not]; omega)
      have hx' : (x : Int) ≤ 40 := by omega
      obtain ⟨kg0, kg1, kg2⟩ := HG.out.c3
      obtain ⟨ky0, ky1, ky2, ky3, ky4⟩ := HY.out.c5
      go_wp2_with (go_at_call 95; refine (refLet_any err miss G gl d y k hk (x : Int) (by omega) (by omega) i0 i1 HT.out _).mono ?_; rw [HFE.out, HV.out]; rintro e w2_ ⟨rfl, hb_⟩; have HB2 := Lib.hid hb_; clear hb_; have HO2 := Lib.hid (HO.out.up HB2.out); have ko0w2 : w2_.cell? ⟨w.heap.size + 1 + 1 + 1, 0, none⟩ = some (.int .i64 lo) := HO2.out.cell 0; have ko1w2 : w2_.cell? ⟨w.heap.size + 1 + 1 + 1, 1, none⟩ = some (.int .i64 u) := HO2.out.cell 1; have zo0w2 : w2_.frozen? ⟨w.heap.size + 1 + 1 + 1, 0, none⟩ = false := HO2.out.frozen 0; have zo1w2 : w2_.frozen? ⟨w.heap.size + 1 + 1 + 1, 1, none⟩ = false := HO2.out.frozen 1; have lo2 := HO2.out.lt)
      have HG2 := Lib.hid (HG.out.up HB2.out)
      have HY2 := Lib.hid (HY.out.up HB2.out)
      have HR2 := Lib.hid (HR.out.up HB2.out)
      have HBB := Lib.hid (HB.out.trans (HB2.out.mono HB.out.size))
      go_roundw
      case rel => exact ⟨x + 1, by go_num, by omega, .inr ⟨(x : Int), rfl, by omega, .inl (by omega), by omega, (by have h := HO2.out; exact zp8)⟩, (by have h := HG2.out; exact zp8), (by have h := HY2.out; exact zp8), (by have h := HR2.out; exact zp8), HBB.out.trans zg⟩
      case measure => first | (simp [intOf]; done) | (simp [intOf]; omega)
     ·have HV : Hid (F (x : Int) = false) := Lib.hid (by rw [HF.out _ (by omega) (by omega)]; simp only [Bool.and_eq_true, Bool.and_eq_false_iff, decide_eq_true_eq, decide_eq_false_iff_not]; omega)
      have hx' : (x : Int) ≤ 40 := by omega
      obtain ⟨kg0, kg1, kg2⟩ := HG.out.c3
      obtain ⟨ky0, ky1, ky2, ky3, ky4⟩ := HY.out.c5
      go_wp2_with (go_at_call 95; refine (refLet_any err miss G gl d y k hk (x : Int) (by omega) (by omega) i0 i1 HT.out _).mono ?_; rw [HFE.out, HV.out]; rintro e w2_ ⟨rfl, hb_⟩; have HB2 := Lib.hid hb_; clear hb_; have HO2 := Lib.hid (HO.out.up HB2.out); have ko0w2 : w2_.cell? ⟨w.heap.size + 1 + 1 + 1, 0, none⟩ = some (.int .i64 lo) := HO2.out.cell 0; have ko1w2 : w2_.cell? ⟨w.heap.size + 1 + 1 + 1, 1, none⟩ = some (.int .i64 u) := HO2.out.cell 1; have zo0w2 : w2_.frozen? ⟨w.heap.size + 1 + 1 + 1, 0, none⟩ = false := HO2.out.frozen 0; have zo1w2 : w2_.frozen? ⟨w.heap.size + 1 + 1 + 1, 1, none⟩ = false := HO2.out.frozen 1; have lo2 := HO2.out.lt)
      have HG2 := Lib.hid (HG.out.up HB2.out)
      have HY2 := Lib.hid (HY.out.up HB2.out)
      have HR2 := Lib.hid (HR.out.up HB2.out)
      have HBB := Lib.hid (HB.out.trans (HB2.out.mono HB.out.size))
      go_roundw
      case rel => exact ⟨x + 1, by go_num, by omega, .inr ⟨u, rfl, by omega, .inr (by omega), by omega, (by have h := HO2.out; exact zp8)⟩, (by have h := HG2.out; exact zp8), (by have h := HY2.out; exact zp8), (by have h := HR2.out; exact zp8), HBB.out.trans zg⟩
      case measure => first | (simp [intOf]; done) | (simp [intOf]; omega)
   ·have hx41 : x = 41 := by omega
    subst hx41
    rcases hst with ⟨rfl, hxl, Ho⟩ | ⟨u, rfl, hxl, hu, huu, Ho⟩
    ·exfalso
     omega
    ·obtain rfl : u = up := by omega
     have HO := Lib.hid Ho
     have lo_ := Ho.lt
     clear Ho
     obtain ⟨ko0, ko1⟩ := HO.out.c2
     obtain ⟨kr0, kr1⟩ := HR.out.c2
     obtain ⟨zr0, zr1⟩ := HR.out.f2
     have lr := HR.out.lt
     go_wp2_with fail
     refine ret_cell2 (t := 60) rfl rfl rfl ?_ Try.underlying60 rfl (by kernel_rfl) rfl ⟨rfl, HB.out.trans zg⟩
     exact (by have h := HR.out; exact zp8)
def foundErr (b : Bool) : Int := if b then 0 else 6
set_option maxRecDepth 100000 in
set_option maxHeartbeats 8000000 in
theorem refNone_any (b : Bool) (w : World) :
  Calls Try.prog 33 #[.bool b] w fun e w' => e = .returned (.int .i64 (foundErr b)) ∧ Below w.heap.size w w' := by
 cases b with
 | true =>
  go_enter Try.func33, Try.ntmps33
  go_wp2_with fail
  go_ret
  exact ⟨rfl, zg⟩
 | false =>
  go_enter Try.func33, Try.ntmps33
  go_wp2_with fail
  go_ret
  exact ⟨rfl, zg⟩
set_option maxRecDepth 100000 in
set_option maxHeartbeats 8000000 in
theorem refMixed_any (m0 m1 m2 m3 : Int) (w : World) :
  Calls Try.prog 34 #[.agg #[.int .i64 m0, .int .i64 m1, .int .i64 m2, .int .i64 m3]] w fun e w' => e = .returned (.int .i64 (mixErr m0 m1 m2 m3)) ∧ Below w.heap.size w w' := by
 obtain ⟨E, hE⟩ : ∃ z, z = mixErr m0 m1 m2 m3 := ⟨_, rfl⟩
 rw [← hE]
 have HE := Lib.hid hE
 clear hE
 cases hr0 : within m0 0 40 with
 | false =>
  go_enter Try.func34, Try.ntmps34
  go_wp2_with fail
  refine wp_loop_rounds 5 ?_
  repeat any_goals (rw [rounds_succ]; go_wp2_with (go_at_call 86; refine (off_any _ _ _ _).mono ?_; simp only [hr0, Bool.not_true, Bool.not_false]; rintro e w2_ ⟨rfl, rfl⟩))
  go_ret
  exact ⟨by rw [HE.out, mixErr, if_pos (by simp only [hr0, Bool.and_false, Bool.false_and])]; rfl, zg⟩
 | true =>
  cases hr1 : within m1 0 40 with
  | false =>
   have b0 : 0 ≤ m0 ∧ m0 ≤ 40 := by have := hr0; simp only [within, Bool.and_eq_true, decide_eq_true_eq] at this; exact this
   go_enter Try.func34, Try.ntmps34
   go_wp2_with fail
   refine wp_loop_rounds 5 ?_
   repeat any_goals (rw [rounds_succ]; go_wp2_with (go_at_call 86; refine (off_any _ _ _ _).mono ?_; simp only [hr0, hr1, Bool.not_true, Bool.not_false]; rintro e w2_ ⟨rfl, rfl⟩))
   go_ret
   exact ⟨by rw [HE.out, mixErr, if_pos (by simp only [hr0, hr1, Bool.and_false, Bool.false_and])]; rfl, zg⟩
  | true =>
   cases hr2 : within m2 0 40 with
   | false =>
    have b0 : 0 ≤ m0 ∧ m0 ≤ 40 := by have := hr0; simp only [within, Bool.and_eq_true, decide_eq_true_eq] at this; exact this
    have b1 : 0 ≤ m1 ∧ m1 ≤ 40 := by have := hr1; simp only [within, Bool.and_eq_true, decide_eq_true_eq] at this; exact this
    go_enter Try.func34, Try.ntmps34
    go_wp2_with fail
    refine wp_loop_rounds 5 ?_
    repeat any_goals (rw [rounds_succ]; go_wp2_with (go_at_call 86; refine (off_any _ _ _ _).mono ?_; simp only [hr0, hr1, hr2, Bool.not_true, Bool.not_false]; rintro e w2_ ⟨rfl, rfl⟩))
    go_ret
    exact ⟨by rw [HE.out, mixErr, if_pos (by simp only [hr0, hr1, hr2, Bool.and_false, Bool.false_and])]; rfl, zg⟩
   | true =>
    cases hr3 : within m3 0 40 with
    | false =>
     have b0 : 0 ≤ m0 ∧ m0 ≤ 40 := by have := hr0; simp only [within, Bool.and_eq_true, decide_eq_true_eq] at this; exact this
     have b1 : 0 ≤ m1 ∧ m1 ≤ 40 := by have := hr1; simp only [within, Bool.and_eq_true, decide_eq_true_eq] at this; exact this
     have b2 : 0 ≤ m2 ∧ m2 ≤ 40 := by have := hr2; simp only [within, Bool.and_eq_true, decide_eq_true_eq] at this; exact this
     go_enter Try.func34, Try.ntmps34
     go_wp2_with fail
     refine wp_loop_rounds 5 ?_
     repeat any_goals (rw [rounds_succ]; go_wp2_with (go_at_call 86; refine (off_any _ _ _ _).mono ?_; simp only [hr0, hr1, hr2, hr3, Bool.not_true, Bool.not_false]; rintro e w2_ ⟨rfl, rfl⟩))
     go_ret
     exact ⟨by rw [HE.out, mixErr, if_pos (by simp only [hr0, hr1, hr2, hr3, Bool.and_false, Bool.false_and])]; rfl, zg⟩
    | true =>
     have b0 : 0 ≤ m0 ∧ m0 ≤ 40 := by have := hr0; simp only [within, Bool.and_eq_true, decide_eq_true_eq] at this; exact this
     have b1 : 0 ≤ m1 ∧ m1 ≤ 40 := by have := hr1; simp only [within, Bool.and_eq_true, decide_eq_true_eq] at this; exact this
     have b2 : 0 ≤ m2 ∧ m2 ≤ 40 := by have := hr2; simp only [within, Bool.and_eq_true, decide_eq_true_eq] at this; exact this
     have b3 : 0 ≤ m3 ∧ m3 ≤ 40 := by have := hr3; simp only [within, Bool.and_eq_true, decide_eq_true_eq] at this; exact this
     by_cases hs : m0 + m1 + m2 + m3 = 40
     ·have hs' : 0 + m0 + m1 + m2 + m3 = 40 := by omega
      go_enter Try.func34, Try.ntmps34
      go_wp2_with fail
      refine wp_loop_rounds 5 ?_
      repeat any_goals (rw [rounds_succ]; go_wp2_with (go_at_call 86; refine (off_any _ _ _ _).mono ?_; simp only [hr0, hr1, hr2, hr3, Bool.not_true, Bool.not_false]; rintro e w2_ ⟨rfl, rfl⟩))
      go_ret
      exact ⟨by rw [HE.out, mixErr, hr0, hr1, hr2, hr3, if_neg (by simp), if_neg (by omega)]; rfl, zg⟩
     ·have hs' : ¬ 0 + m0 + m1 + m2 + m3 = 40 := by omega
      go_enter Try.func34, Try.ntmps34
      go_wp2_with fail
      refine wp_loop_rounds 5 ?_
      repeat any_goals (rw [rounds_succ]; go_wp2_with (go_at_call 86; refine (off_any _ _ _ _).mono ?_; simp only [hr0, hr1, hr2, hr3, Bool.not_true, Bool.not_false]; rintro e w2_ ⟨rfl, rfl⟩))
      go_ret
      exact ⟨by rw [HE.out, mixErr, hr0, hr1, hr2, hr3, if_neg (by simp), if_pos (by omega)]; rfl, zg⟩
end Go.Proofs.Ytifffonoipapgaa
