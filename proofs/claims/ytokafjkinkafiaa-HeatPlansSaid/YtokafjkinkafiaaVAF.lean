
import Derived.Test.YtokafjkinkafiaaVAA
import Derived.Test.YtokafjkinkafiaaVAB
import Derived.Test.YtokafjkinkafiaaVAD
import Derived.Test.YtokafjkinkafiaaVAE
set_option linter.unusedSimpArgs false
set_option linter.unusedVariables false
namespace Go.Proofs.Ytokafjkinkafiaa
open Go.RowKit
theorem Holds.set9 {w : World} {B : Nat} {t : TypeId} {a0 a1 a2 a3 a4 a5 a6 a7 a8 : Value} (u0 u1 u2 u3 u4 u5 u6 u7 u8 : Value) (h : Holds w B t #[a0, a1, a2, a3, a4, a5, a6, a7, a8]) : Holds (((((((((w.setCell ⟨B, 0, none⟩ u0).setCell ⟨B, 1, none⟩ u1).setCell ⟨B, 2, none⟩ u2).setCell ⟨B, 3, none⟩ u3).setCell ⟨B, 4, none⟩ u4).setCell ⟨B, 5, none⟩ u5).setCell ⟨B, 6, none⟩ u6).setCell ⟨B, 7, none⟩ u7).setCell ⟨B, 8, none⟩ u8) B t #[u0, u1, u2, u3, u4, u5, u6, u7, u8] := (((((((((h.setL 0 _).setL 1 _).setL 2 _).setL 3 _).setL 4 _).setL 5 _).setL 6 _).setL 7 _).setL 8 _)
theorem rowq_far9 {w : World} {B b n q : Nat} {e : TypeId} {v : Value} {xs : List Value} {u0 u1 u2 u3 u4 u5 u6 u7 u8 : Value} (h : w.ownsRow b e q v n xs) (hB : B < b) : (((((((((w.setCell ⟨B, 0, none⟩ u0).setCell ⟨B, 1, none⟩ u1).setCell ⟨B, 2, none⟩ u2).setCell ⟨B, 3, none⟩ u3).setCell ⟨B, 4, none⟩ u4).setCell ⟨B, 5, none⟩ u5).setCell ⟨B, 6, none⟩ u6).setCell ⟨B, 7, none⟩ u7).setCell ⟨B, 8, none⟩ u8).ownsRow b e q v n xs := (rowq_far (rowq_far (rowq_far (rowq_far (rowq_far (rowq_far (rowq_far (rowq_far (rowq_far h (p := ⟨B, 0, none⟩) hB _) (p := ⟨B, 1, none⟩) hB _) (p := ⟨B, 2, none⟩) hB _) (p := ⟨B, 3, none⟩) hB _) (p := ⟨B, 4, none⟩) hB _) (p := ⟨B, 5, none⟩) hB _) (p := ⟨B, 6, none⟩) hB _) (p := ⟨B, 7, none⟩) hB _) (p := ⟨B, 8, none⟩) hB _)
theorem rowq_block {w : World} {B n q : Nat} {e : TypeId} {v : Value} {xs : List Value} (h : w.ownsRow B e q v n xs) : ∀ k, v.ownBlock = some k → B ≤ k := by
 obtain ⟨_, ⟨rfl, rfl⟩ | ⟨g, cap, cur, rfl, hB, _⟩⟩ := h
 ·intro k hk; cases hk
 ·intro k hk; cases hk; exact hB
theorem info_bin : (Try.prog.info? 39).map (fun i => (i.zero, i.size, i.bytes)) = some (some (.agg #[.int .i64 0, .int .i64 0, .int .i64 0, .int .i64 0]), 4, 32) := by kernel_rfl
theorem und_bins : Try.prog.underlying 23 = some (.slice 39) := by kernel_rfl
theorem info_rbin : (Try.prog.info? 91).map (fun i => (i.zero, i.size, i.bytes)) = some (some (.agg #[.int .i64 0, .int .i64 0, .int .i64 0, .int .i64 0]), 4, 32) := by kernel_rfl
theorem und_rbins : Try.prog.underlying 31 = some (.slice 91) := by kernel_rfl
theorem append_bins (w : World) (ty : TypeId) (g n d B : Nat) (G : Option Addr) (gs : List Bn) (hown : w.ownsRow B 39 4 (.slice (some ⟨g, 0, none⟩) 0 n) 0 []) (hn : gs.length ≤ n) (hG : BinsAt w G gs) (hd : G = none → gs.length = 0 ∧ d = 0) :
  ∃ v w', (Builtin.append_ #[23, 23] ty #[.slice (some ⟨g, 0, none⟩) 0 n, .slice G gs.length d]).run Try.prog w = .ok v w' ∧ w'.ownsRow B 39 4 v gs.length (gs.flatMap Bn.cells) ∧ w.grownBy w' (some g) := by
 obtain ⟨i0, hi, hz0, hz1, hz2⟩ := info_parts info_bin
 cases G with
 | none =>
  obtain ⟨h0, rfl⟩ := hd rfl
  have e : gs = [] := List.eq_nil_of_length_eq_zero h0
  subst e
  exact ⟨_, w, run_append_owned_none (P := Try.prog) (w := w) B 23 ty 39 i0 4 und_bins hi _ 0 [] hown, hown, grow_refl w g⟩
 | some a =>
  have hl := flat_len Bn.cells 4 Bn.len gs
  obtain ⟨w', hrun, ho, hg⟩ := run_append_fits (P := Try.prog) (w := w) B 23 ty 39 i0 4 und_bins hi hz1 g 0 n [] hown a gs.length d (gs.flatMap Bn.cells) hl (by
   by_cases h0 : 0 < gs.length
   ·obtain ⟨B', o, e, _⟩ := hG h0
    cases e
    exact row_flat Bn.len (by decide) hG
   ·intro j u hj
    have e : gs = [] := List.eq_nil_of_length_eq_zero (by omega)
    subst e
    simp at hj) (bins_one gs) (by omega)
  simp only [Nat.zero_add, List.nil_append] at ho hrun
  exact ⟨_, w', hrun, ho, hg⟩
set_option maxRecDepth 100000 in
set_option maxHeartbeats 2000000 in
theorem DupBins_any (G : Option Addr) (d : Nat) (gs : List Bn) (w : World) (hG : BinsAt w G gs) (hl : gs.length ≤ 1000) (hd : G = none → gs.length = 0 ∧ d = 0) :
  Calls Try.prog 49 #[.slice G gs.length d] w fun e w' => ∃ v, e = .returned v ∧ w'.ownsRow w.heap.size 39 4 v gs.length (gs.flatMap Bn.cells) ∧ Below w.heap.size w w' := by
 obtain ⟨i0, hi, hz0, hz1, hz2⟩ := info_parts info_bin
 obtain ⟨w2, hrun2, hown2, hgr2⟩ := run_make_own (P := Try.prog) (w := w) w.heap.size 23 39 i0 _ 4 und_bins hi hz0 hz1 .i64 .i64 gs.length (by rw [hz2]; omega) (by unfold maxLen; omega) (Nat.le_refl _)
 have hb2 := below_none hgr2
 obtain ⟨v, w3, hrun3, hown3, hgr3⟩ := append_bins w2 23 w.heap.size gs.length d w.heap.size G gs hown2 (Nat.le_refl _) (hG.up hb2) hd
 have HO := Lib.hid hown3
 have HB : Hid (Below w.heap.size w w3) := Lib.hid (hb2.grown hgr3 hb2.size (fun k hk => by cases hk; exact Nat.le_refl _))
 clear hG hown2 hgr2 hown3 hgr3 hb2
 go_enter Try.func49, Try.ntmps49
 go_wp2_with (at_builtin; (refine wpList_append_run _ rfl _ _ _ _ rfl _ _ rfl rfl hrun3 ?_))
 go_ret
 exact ⟨v, rfl, HO.out, HB.out⟩
theorem zp1 {p : Prop} (h : p := by (repeat first | (with_reducible first | assumption | apply Holds.set9 | apply Holds.set4 | apply Holds.set2 | apply Holds.putL | ((refine Holds.new' _ _ ?_); (simp; done)) | refine Holds.alloc ?_ _ | refine Holds.drew ?_ | refine Holds.far ?_ (by simp only [ne_eq]; omega) _) | rfl)) : p := h
set_option maxRecDepth 100000 in
set_option maxHeartbeats 4000000 in
theorem Own_any (b : Br) (A : Option Addr) (c : Nat) (bs : List Bn) (w : World) (hA : BinsAt w A bs) (hl : bs.length ≤ 1000) (hd : A = none → bs.length = 0 ∧ c = 0) :
  Calls Try.prog 11 #[.agg #[.int .i64 b.cool, .int .i64 b.gangs, .int .i64 b.r0, .int .i64 b.r1, .int .i64 b.r2, .int .i64 b.r3, .int .i64 b.r4, .int .i64 b.r5, .slice A bs.length c]] w fun e w' => ∃ A' c', e = .returned (.agg #[.int .i64 b.cool, .int .i64 b.gangs, .int .i64 b.r0, .int .i64 b.r1, .int .i64 b.r2, .int .i64 b.r3, .int .i64 b.r4, .int .i64 b.r5, .slice A' bs.length c']) ∧ w'.ownsRow w.heap.size 39 4 (.slice A' bs.length c') bs.length (bs.flatMap Bn.cells) ∧ Below w.heap.size w w' := by
 have HA := Lib.hid hA
 clear hA
 go_enter Try.func11, Try.ntmps11
 go_wp2_with fail
 refine (DupBins_any A c bs _ (HA.out.up zg) hl hd).mono ?_
 rintro e w2 ⟨v, rfl, hown, hb2⟩
 have Hg2 := Lib.hid (Holds.up (zp1 : Holds _ (w.heap.size) 25 #[.int .i64 b.cool, .int .i64 b.gangs, .int .i64 b.r0, .int .i64 b.r1, .int .i64 b.r2, .int .i64 b.r3, .int .i64 b.r4, .int .i64 b.r5, .slice A bs.length c]) hb2)
 have Hr2 := Lib.hid (Holds.up (zp1 : Holds _ (w.heap.size + 1) 25 #[.int .i64 0, .int .i64 0, .int .i64 0, .int .i64 0, .int .i64 0, .int .i64 0, .int .i64 0, .int .i64 0, .slice none 0 0]) hb2)
 have HB2 : Hid (Below w.heap.size w w2) := Lib.hid (Below.trans zg (hb2.mono (by first | exact Nat.le_refl _ | omega | (simp; done) | (simp; omega))))
 have hs2 := HB2.out.size
 clear hb2
 obtain ⟨G', d', rfl, hgd, -⟩ := rowq_val hown
 have HO := Lib.hid hown
 clear hown
 have kg0 : w2.cell? ⟨w.heap.size, 0, none⟩ = some (.int .i64 b.cool) := Hg2.out.cell 0
 have kg1 : w2.cell? ⟨w.heap.size, 1, none⟩ = some (.int .i64 b.gangs) := Hg2.out.cell 1
 have kg2 : w2.cell? ⟨w.heap.size, 2, none⟩ = some (.int .i64 b.r0) := Hg2.out.cell 2
 have kg3 : w2.cell? ⟨w.heap.size, 3, none⟩ = some (.int .i64 b.r1) := Hg2.out.cell 3
 have kg4 : w2.cell? ⟨w.heap.size, 4, none⟩ = some (.int .i64 b.r2) := Hg2.out.cell 4
 have kg5 : w2.cell? ⟨w.heap.size, 5, none⟩ = some (.int .i64 b.r3) := Hg2.out.cell 5
 have kg6 : w2.cell? ⟨w.heap.size, 6, none⟩ = some (.int .i64 b.r4) := Hg2.out.cell 6
 have kg7 : w2.cell? ⟨w.heap.size, 7, none⟩ = some (.int .i64 b.r5) := Hg2.out.cell 7
 have kg8 : w2.cell? ⟨w.heap.size, 8, none⟩ = some (.slice A bs.length c) := Hg2.out.cell 8
 have zg0 : w2.frozen? ⟨w.heap.size, 0, none⟩ = false := Hg2.out.frozen 0
 have zg1 : w2.frozen? ⟨w.heap.size, 1, none⟩ = false := Hg2.out.frozen 1
 have zg2 : w2.frozen? ⟨w.heap.size, 2, none⟩ = false := Hg2.out.frozen 2
 have zg3 : w2.frozen? ⟨w.heap.size, 3, none⟩ = false := Hg2.out.frozen 3
 have zg4 : w2.frozen? ⟨w.heap.size, 4, none⟩ = false := Hg2.out.frozen 4
 have zg5 : w2.frozen? ⟨w.heap.size, 5, none⟩ = false := Hg2.out.frozen 5
 have zg6 : w2.frozen? ⟨w.heap.size, 6, none⟩ = false := Hg2.out.frozen 6
 have zg7 : w2.frozen? ⟨w.heap.size, 7, none⟩ = false := Hg2.out.frozen 7
 have zg8 : w2.frozen? ⟨w.heap.size, 8, none⟩ = false := Hg2.out.frozen 8
 have lt_g : w.heap.size < w2.heap.size := Hg2.out.lt
 have kr0 : w2.cell? ⟨w.heap.size + 1, 0, none⟩ = some (.int .i64 0) := Hr2.out.cell 0
 have kr1 : w2.cell? ⟨w.heap.size + 1, 1, none⟩ = some (.int .i64 0) := Hr2.out.cell 1
 have kr2 : w2.cell? ⟨w.heap.size + 1, 2, none⟩ = some (.int .i64 0) := Hr2.out.cell 2
 have kr3 : w2.cell? ⟨w.heap.size + 1, 3, none⟩ = some (.int .i64 0) := Hr2.out.cell 3
 have kr4 : w2.cell? ⟨w.heap.size + 1, 4, none⟩ = some (.int .i64 0) := Hr2.out.cell 4
 have kr5 : w2.cell? ⟨w.heap.size + 1, 5, none⟩ = some (.int .i64 0) := Hr2.out.cell 5
 have kr6 : w2.cell? ⟨w.heap.size + 1, 6, none⟩ = some (.int .i64 0) := Hr2.out.cell 6
 have kr7 : w2.cell? ⟨w.heap.size + 1, 7, none⟩ = some (.int .i64 0) := Hr2.out.cell 7
 have kr8 : w2.cell? ⟨w.heap.size + 1, 8, none⟩ = some (.slice none 0 0) := Hr2.out.cell 8
 have zr0 : w2.frozen? ⟨w.heap.size + 1, 0, none⟩ = false := Hr2.out.frozen 0
 have zr1 : w2.frozen? ⟨w.heap.size + 1, 1, none⟩ = false := Hr2.out.frozen 1
 have zr2 : w2.frozen? ⟨w.heap.size + 1, 2, none⟩ = false := Hr2.out.frozen 2
 have zr3 : w2.frozen? ⟨w.heap.size + 1, 3, none⟩ = false := Hr2.out.frozen 3
 have zr4 : w2.frozen? ⟨w.heap.size + 1, 4, none⟩ = false := Hr2.out.frozen 4
 have zr5 : w2.frozen? ⟨w.heap.size + 1, 5, none⟩ = false := Hr2.out.frozen 5
 have zr6 : w2.frozen? ⟨w.heap.size + 1, 6, none⟩ = false := Hr2.out.frozen 6
 have zr7 : w2.frozen? ⟨w.heap.size + 1, 7, none⟩ = false := Hr2.out.frozen 7
 have zr8 : w2.frozen? ⟨w.heap.size + 1, 8, none⟩ = false := Hr2.out.frozen 8
 have lt_r : w.heap.size + 1 < w2.heap.size := Hr2.out.lt
 have lt1 : w.heap.size < w.heap.size + 1 + 1 := by omega
 have lt2 : w.heap.size + 1 < w.heap.size + 1 + 1 := by omega
 have HRO := Hr2.out
 go_wp2_with fail
 refine ret_cell (t := 25) (cs := #[.int .i64 b.cool, .int .i64 b.gangs, .int .i64 b.r0, .int .i64 b.r1, .int .i64 b.r2, .int .i64 b.r3, .int .i64 b.r4, .int .i64 b.r5, .slice G' bs.length d']) rfl rfl zp1 Try.underlying25 rfl (by kernel_rfl) rfl ⟨G', d', rfl, ?_, HB2.out.trans zg⟩
 have ho := HO.out
 simp only [World.size_alloc] at ho
 exact rowq_mono (rowq_far9 (rowq_far ho (p := ⟨w.heap.size, 8, none⟩) lt1 _) lt2) (by omega)
set_option maxRecDepth 100000 in
set_option maxHeartbeats 4000000 in
theorem theirs_any (b : Br) (A : Option Addr) (c : Nat) (bs : List Bn) (w : World) (hA : BinsAt w A bs) (hl : bs.length ≤ 1000) :
  Calls Try.prog 12 #[.agg #[.int .i64 b.cool, .int .i64 b.gangs, .int .i64 b.r0, .int .i64 b.r1, .int .i64 b.r2, .int .i64 b.r3, .int .i64 b.r4, .int .i64 b.r5, .slice A bs.length c]] w fun e w' => ∃ A' c', e = .returned (.agg #[.int .i64 b.cool, .int .i64 b.gangs, .int .i64 b.r0, .int .i64 b.r1, .int .i64 b.r2, .int .i64 b.r3, .int .i64 b.r4, .int .i64 b.r5, .slice A' bs.length c']) ∧ w'.ownsRow w.heap.size 91 4 (.slice A' bs.length c') bs.length (bs.flatMap Bn.cells) ∧ Below w.heap.size w w' := by
 have HA := Lib.hid hA
 clear hA
 obtain ⟨ti, hti, hti0, hti1, hti2⟩ := info_parts info_rbin
 go_enter Try.func12, Try.ntmps12
 go_wp2_with fail
 go_loopw [16] (fun v16 wr => ∃ (i : Nat) (sv : Value), v16 = .int .i64 (i : Int) ∧ i ≤ bs.length ∧ Holds wr (w.heap.size + 1) 33 #[.int .i64 0, .int .i64 0, .int .i64 0, .int .i64 0, .int .i64 0, .int .i64 0, .int .i64 0, .int .i64 0, .slice none 0 0] ∧ Holds wr (w.heap.size + 1 + 1) 33 #[.int .i64 b.cool, .int .i64 b.gangs, .int .i64 b.r0, .int .i64 b.r1, .int .i64 b.r2, .int .i64 b.r3, .int .i64 b.r4, .int .i64 b.r5, sv] ∧ wr.ownsRow (w.heap.size + 1 + 1 + 1) 91 4 sv i ((bs.take i).flatMap Bn.cells) ∧ Below w.heap.size w wr) (fun v16 _ => bs.length - (intOf v16).toNat)
 case atStart => exact ⟨0, .slice none 0 0, rfl, Nat.zero_le _, by (repeat first | (with_reducible first | assumption | apply Holds.set9 | apply Holds.set4 | apply Holds.set2 | apply Holds.putL | ((refine Holds.new' _ _ ?_); (simp; done)) | refine Holds.alloc ?_ _ | refine Holds.drew ?_ | refine Holds.far ?_ (by simp only [ne_eq]; omega) _) | rfl), by (repeat first | (with_reducible first | assumption | apply Holds.set9 | apply Holds.set4 | apply Holds.set2 | apply Holds.putL | ((refine Holds.new' _ _ ?_); (simp; done)) | refine Holds.alloc ?_ _ | refine Holds.drew ?_ | refine Holds.far ?_ (by simp only [ne_eq]; omega) _) | rfl), ⟨rfl, .inl ⟨rfl, rfl⟩⟩, zg⟩
 case round =>
  obtain ⟨i, sv, rfl, hi, hres, hout, hrow, hB⟩ := hrel
  obtain ⟨SA, sc, esv, hsc, _⟩ := rowq_val hrow
  subst esv
  have HRES := Lib.hid hres
  have HOUT := Lib.hid hout
  have HROW := Lib.hid hrow
  have HB := Lib.hid hB
  have lr := hres.lt
  have lo := hout.lt
  clear hres hrow hB
  have ko0 : wr.cell? ⟨w.heap.size + 1 + 1, 0, none⟩ = some (.int .i64 b.cool) := hout.cell 0
  have ko1 : wr.cell? ⟨w.heap.size + 1 + 1, 1, none⟩ = some (.int .i64 b.gangs) := hout.cell 1
  have ko2 : wr.cell? ⟨w.heap.size + 1 + 1, 2, none⟩ = some (.int .i64 b.r0) := hout.cell 2
  have ko3 : wr.cell? ⟨w.heap.size + 1 + 1, 3, none⟩ = some (.int .i64 b.r1) := hout.cell 3
  have ko4 : wr.cell? ⟨w.heap.size + 1 + 1, 4, none⟩ = some (.int .i64 b.r2) := hout.cell 4
  have ko5 : wr.cell? ⟨w.heap.size + 1 + 1, 5, none⟩ = some (.int .i64 b.r3) := hout.cell 5
  have ko6 : wr.cell? ⟨w.heap.size + 1 + 1, 6, none⟩ = some (.int .i64 b.r4) := hout.cell 6
  have ko7 : wr.cell? ⟨w.heap.size + 1 + 1, 7, none⟩ = some (.int .i64 b.r5) := hout.cell 7
  have ko8 : wr.cell? ⟨w.heap.size + 1 + 1, 8, none⟩ = some (.slice SA i sc) := hout.cell 8
  clear hout
  by_cases hlt : i < bs.length
  ·have hlt' : (i : Int) < bs.length := by omega
   obtain ⟨y, hy⟩ : ∃ g, bs[i]? = some g := ⟨_, List.getElem?_eq_getElem hlt⟩
   obtain ⟨E0, oo, rfl, hcell⟩ := (HA.out.up HB.out) (by omega)
   have ke0 : wr.cell? ⟨E0, oo + i * 4, none⟩ = some (.int .i64 y.warm) := hcell i y hy 0 _ rfl
   have ke1 : wr.cell? ⟨E0, oo + i * 4 + 1, none⟩ = some (.int .i64 y.mark) := hcell i y hy 1 _ rfl
   have ke2 : wr.cell? ⟨E0, oo + i * 4 + 2, none⟩ = some (.int .i64 y.lo) := hcell i y hy 2 _ rfl
   have ke3 : wr.cell? ⟨E0, oo + i * 4 + 3, none⟩ = some (.int .i64 y.hi) := hcell i y hy 3 _ rfl
   have HY := Lib.hid hy
   have lE := World.block_lt_of_cell? wr _ ke0
   clear hcell hy
   go_wp2_with (at_builtin; (refine wpList_append_own _ rfl _ _ 31 rfl (w.heap.size + 1 + 1 + 1) 91 ti _ 4 32 und_rbins hti hti0 hti1 hti2 rfl (by decide) _ _ _ rfl (rowq_up HROW.out zg) ⟨_, 0, none⟩ 1 1 y.cells rfl rfl (holds_news (Holds.new' _ _ (by simp))) (Bn.one _) (by unfold maxLen; omega) (by omega) (by simp; omega) ?_); intro v5 w5 hown5 hgrow5 _; obtain ⟨A5, c5, rfl, _⟩ := rowq_val hown5; have HG5 := Lib.hid hgrow5; have HO5 := Lib.hid (row_take HY.out hown5); have HOUT5 := Lib.hid (held_row (by have h := HOUT.out; exact zp1 : Holds _ (w.heap.size + 1 + 1) 33 #[.int .i64 b.cool, .int .i64 b.gangs, .int .i64 b.r0, .int .i64 b.r1, .int .i64 b.r2, .int .i64 b.r3, .int .i64 b.r4, .int .i64 b.r5, .slice SA i sc]) hgrow5 (rowq_at (rowq_up HROW.out zg) (by have h := HOUT.out; exact zp1 : Holds _ (w.heap.size + 1 + 1) 33 #[.int .i64 b.cool, .int .i64 b.gangs, .int .i64 b.r0, .int .i64 b.r1, .int .i64 b.r2, .int .i64 b.r3, .int .i64 b.r4, .int .i64 b.r5, .slice SA i sc]) (by decide))); have HRES5 := Lib.hid (held_row (by have h := HRES.out; exact zp1 : Holds _ (w.heap.size + 1) 33 #[.int .i64 0, .int .i64 0, .int .i64 0, .int .i64 0, .int .i64 0, .int .i64 0, .int .i64 0, .int .i64 0, .slice none 0 0]) hgrow5 (rowq_at (rowq_up HROW.out zg) (by have h := HRES.out; exact zp1 : Holds _ (w.heap.size + 1) 33 #[.int .i64 0, .int .i64 0, .int .i64 0, .int .i64 0, .int .i64 0, .int .i64 0, .int .i64 0, .int .i64 0, .slice none 0 0]) (by decide))); have hb5 : Below w.heap.size w w5 := Below.grown (HB.out.trans zg) hgrow5 (by simp; omega) (fun k hk => by have := rowq_block HROW.out k hk; omega); have HB5 := Lib.hid hb5; have lo5 := HOUT5.out.lt; have ko5 : w5.cell? ⟨w.heap.size + 1 + 1, 8, none⟩ = some (.slice SA i sc) := HOUT5.out.cell 8; have zo5 : w5.frozen? ⟨w.heap.size + 1 + 1, 8, none⟩ = false := HOUT5.out.frozen 8; clear hown5 hgrow5 hb5)
   go_roundw
   case rel => exact ⟨i + 1, _, by go_num, by omega, (by have h := HRES5.out; exact zp1), (by have h := HOUT5.out; exact zp1), rowq_far HO5.out (by simp only []; omega) _, HB5.out.trans zg⟩
   case measure => first | (simp [intOf]; done) | (simp [intOf]; omega)
  ·have hie : i = bs.length := by omega
   subst hie
   have kr0 : wr.cell? ⟨w.heap.size + 1, 0, none⟩ = some (.int .i64 0) := HRES.out.cell 0
   have kr1 : wr.cell? ⟨w.heap.size + 1, 1, none⟩ = some (.int .i64 0) := HRES.out.cell 1
   have kr2 : wr.cell? ⟨w.heap.size + 1, 2, none⟩ = some (.int .i64 0) := HRES.out.cell 2
   have kr3 : wr.cell? ⟨w.heap.size + 1, 3, none⟩ = some (.int .i64 0) := HRES.out.cell 3
   have kr4 : wr.cell? ⟨w.heap.size + 1, 4, none⟩ = some (.int .i64 0) := HRES.out.cell 4
   have kr5 : wr.cell? ⟨w.heap.size + 1, 5, none⟩ = some (.int .i64 0) := HRES.out.cell 5
   have kr6 : wr.cell? ⟨w.heap.size + 1, 6, none⟩ = some (.int .i64 0) := HRES.out.cell 6
   have kr7 : wr.cell? ⟨w.heap.size + 1, 7, none⟩ = some (.int .i64 0) := HRES.out.cell 7
   have kr8 : wr.cell? ⟨w.heap.size + 1, 8, none⟩ = some (.slice none 0 0) := HRES.out.cell 8
   have zr0 : wr.frozen? ⟨w.heap.size + 1, 0, none⟩ = false := HRES.out.frozen 0
   have zr1 : wr.frozen? ⟨w.heap.size + 1, 1, none⟩ = false := HRES.out.frozen 1
   have zr2 : wr.frozen? ⟨w.heap.size + 1, 2, none⟩ = false := HRES.out.frozen 2
   have zr3 : wr.frozen? ⟨w.heap.size + 1, 3, none⟩ = false := HRES.out.frozen 3
   have zr4 : wr.frozen? ⟨w.heap.size + 1, 4, none⟩ = false := HRES.out.frozen 4
   have zr5 : wr.frozen? ⟨w.heap.size + 1, 5, none⟩ = false := HRES.out.frozen 5
   have zr6 : wr.frozen? ⟨w.heap.size + 1, 6, none⟩ = false := HRES.out.frozen 6
   have zr7 : wr.frozen? ⟨w.heap.size + 1, 7, none⟩ = false := HRES.out.frozen 7
   have zr8 : wr.frozen? ⟨w.heap.size + 1, 8, none⟩ = false := HRES.out.frozen 8
   have hrow := HROW.out
   go_wp2_with fail
   refine ret_cell (t := 33) (cs := #[.int .i64 b.cool, .int .i64 b.gangs, .int .i64 b.r0, .int .i64 b.r1, .int .i64 b.r2, .int .i64 b.r3, .int .i64 b.r4, .int .i64 b.r5, .slice SA bs.length sc]) rfl rfl (by have h := HRES.out; exact zp1) Try.underlying33 rfl (by kernel_rfl) rfl ⟨SA, sc, rfl, ?_, HB.out.trans zg⟩
   rw [List.take_length] at hrow
   exact rowq_mono (rowq_far9 hrow (by omega)) (by omega)
theorem eqlIn_span (n : Nat) (a b : Int) (w : World) : (Op.equalIn (n + 3) 27 (.agg #[.int .i64 a, .int .i64 b]) (.agg #[.int .i64 a, .int .i64 b])).run Try.prog w = .ok true w := by
 simp [go_sem, Result.andThen]
theorem eqlIn_bin (n : Nat) (s a b c : Int) (w : World) : (Op.equalIn (n + 4) 39 (.agg #[.int .i64 s, .int .i64 a, .int .i64 b, .int .i64 c]) (.agg #[.int .i64 s, .int .i64 a, .int .i64 b, .int .i64 c])).run Try.prog w = .ok true w := by
 simp [go_sem, eqlIn_span n b c, Result.andThen]
theorem neq_bin (s a b c : Int) (w : World) : (binOp .neq 39 (.agg #[.int .i64 s, .int .i64 a, .int .i64 b, .int .i64 c]) (.agg #[.int .i64 s, .int .i64 a, .int .i64 b, .int .i64 c])).run Try.prog w = .ok (.bool false) w := by
 rw [run_neq_struct, eqlIn_bin]; rfl
set_option maxRecDepth 100000 in
set_option maxHeartbeats 4000000 in
theorem equalBin_same (A A' : Option Addr) (c c' : Nat) (hs : List Bn) (w : World) (hA : BinsAt w A hs) (hA' : BinsAt w A' hs) (hl : hs.length ≤ 1000) :
  Calls Try.prog 101 #[.slice A hs.length c, .slice A' hs.length c'] w fun e w' => e = .returned (.bool true) ∧ Below w.heap.size w w' := by
 have HA := Lib.hid hA
 have HA' := Lib.hid hA'
 clear hA hA'
 go_enter Try.func101, Try.ntmps101
 go_wp2_with fail
 go_loopw [13] (fun v13 wr => ∃ k : Nat, v13 = .int .i64 (k : Int) ∧ k ≤ hs.length ∧ Below w.heap.size w wr) (fun v13 _ => hs.length - (intOf v13).toNat)
 case atStart => exact ⟨0, rfl, Nat.zero_le _, Below.refl _ _⟩
 case round =>
  obtain ⟨k, rfl, hk, hBr⟩ := hrel
  by_cases hlt : k < hs.length
  ·obtain ⟨hf, hh⟩ : ∃ z, hs[k]? = some z := ⟨_, List.getElem?_eq_getElem hlt⟩
   obtain ⟨B, o, rfl, hc⟩ := HA.out (by omega)
   obtain ⟨B', o', rfl, hc'⟩ := HA'.out (by omega)
   have HX0 : Hid (w.cell? ⟨B, o + k * 4, none⟩ = some (.int .i64 hf.warm)) := Lib.hid (hc k hf hh 0 _ rfl)
   have HX1 : Hid (w.cell? ⟨B, o + k * 4 + 1, none⟩ = some (.int .i64 hf.mark)) := Lib.hid (hc k hf hh 1 _ rfl)
   have HX2 : Hid (w.cell? ⟨B, o + k * 4 + 2, none⟩ = some (.int .i64 hf.lo)) := Lib.hid (hc k hf hh 2 _ rfl)
   have HX3 : Hid (w.cell? ⟨B, o + k * 4 + 3, none⟩ = some (.int .i64 hf.hi)) := Lib.hid (hc k hf hh 3 _ rfl)
   have HY0 : Hid (w.cell? ⟨B', o' + k * 4, none⟩ = some (.int .i64 hf.warm)) := Lib.hid (hc' k hf hh 0 _ rfl)
   have HY1 : Hid (w.cell? ⟨B', o' + k * 4 + 1, none⟩ = some (.int .i64 hf.mark)) := Lib.hid (hc' k hf hh 1 _ rfl)
   have HY2 : Hid (w.cell? ⟨B', o' + k * 4 + 2, none⟩ = some (.int .i64 hf.lo)) := Lib.hid (hc' k hf hh 2 _ rfl)
   have HY3 : Hid (w.cell? ⟨B', o' + k * 4 + 3, none⟩ = some (.int .i64 hf.hi)) := Lib.hid (hc' k hf hh 3 _ rfl)
   have hlB := World.block_lt_of_cell? w _ HX0.out
   have hlB' := World.block_lt_of_cell? w _ HY0.out
   clear hc hc' hh
   go_wp2_with fail
   rename_i Kc hKc
   have HSL := Lib.hid (show slotsOf [some 16, some 17, some 18, some 19, some 20, some 21, some 22, some 23, some 24] = [16, 17, 18, 19, 20, 21, 22, 23, 24] from rfl)
   refine wp_region_partsG (by kernel_rfl) [some 16, some 17, some 18, some 19, some 20, some 21, some 22, some 23, some 24] (fun jq xq w' => match jq with
    | 0 => xq 16 = .slice (some ⟨B, o, none⟩) hs.length c
    | 1 => xq 17 = .int .i64 (k : Int)
    | 2 => xq 18 = .pointer (some ⟨B, o + k * 4, none⟩)
    | 3 => xq 19 = .agg #[.int .i64 hf.warm, .int .i64 hf.mark, .int .i64 hf.lo, .int .i64 hf.hi]
    | 4 => xq 20 = .slice (some ⟨B', o', none⟩) hs.length c'
    | 5 => xq 21 = .int .i64 (k : Int)
    | 6 => xq 22 = .pointer (some ⟨B', o' + k * 4, none⟩)
    | 7 => xq 23 = .agg #[.int .i64 hf.warm, .int .i64 hf.mark, .int .i64 hf.lo, .int .i64 hf.hi]
    | 8 => xq 24 = .bool false
    | _ => True) [[16], [17], [18], [19], [20], [21], [22], [23], [24]] [] (Below w.heap.size w) (by kernel_rfl)  ?_ ?_ (fun w' w'' hb h => h.trans (hb.mono h.size)) (hBr) ?_ ?_ ?_
   ·intro jq xq xq' wqq h hv
    match jq, h, hv with
    | 0, h, hv => show xq' 16 = .slice (some ⟨B, o, none⟩) hs.length c; rw [← h 16 (by decide)]; exact hv
    | 1, h, hv => show xq' 17 = .int .i64 (k : Int); rw [← h 17 (by decide)]; exact hv
    | 2, h, hv => show xq' 18 = .pointer (some ⟨B, o + k * 4, none⟩); rw [← h 18 (by decide)]; exact hv
    | 3, h, hv => show xq' 19 = .agg #[.int .i64 hf.warm, .int .i64 hf.mark, .int .i64 hf.lo, .int .i64 hf.hi]; rw [← h 19 (by decide)]; exact hv
    | 4, h, hv => show xq' 20 = .slice (some ⟨B', o', none⟩) hs.length c'; rw [← h 20 (by decide)]; exact hv
    | 5, h, hv => show xq' 21 = .int .i64 (k : Int); rw [← h 21 (by decide)]; exact hv
    | 6, h, hv => show xq' 22 = .pointer (some ⟨B', o' + k * 4, none⟩); rw [← h 22 (by decide)]; exact hv
    | 7, h, hv => show xq' 23 = .agg #[.int .i64 hf.warm, .int .i64 hf.mark, .int .i64 hf.lo, .int .i64 hf.hi]; rw [← h 23 (by decide)]; exact hv
    | 8, h, hv => show xq' 24 = .bool false; rw [← h 24 (by decide)]; exact hv
    | _ + 9, _, _ => trivial
   ·intro jq xq wqq w' hb' hv
    match jq, hv with
    | 0, hv => exact hv
    | 1, hv => exact hv
    | 2, hv => exact hv
    | 3, hv => exact hv
    | 4, hv => exact hv
    | 5, hv => exact hv
    | 6, hv => exact hv
    | 7, hv => exact hv
    | 8, hv => exact hv
    | _ + 9, _ => trivial
   ·intro jq hj
    match jq, hj with
    | 0, hj => exact absurd hj (by decide)
    | 1, hj => exact absurd hj (by decide)
    | 2, hj => exact absurd hj (by decide)
    | 3, hj => exact absurd hj (by decide)
    | 4, hj => exact absurd hj (by decide)
    | 5, hj => exact absurd hj (by decide)
    | 6, hj => exact absurd hj (by decide)
    | 7, hj => exact absurd hj (by decide)
    | 8, hj => exact absurd hj (by decide)
    | _ + 9, _ => trivial
   ·refine ⟨?_, ?_, ?_, ?_, ?_, ?_, ?_, ?_, ?_, trivial⟩
    ·intro xq w1 hb1 hx K hK0
     have hK := fun v w' hb => hK0 v w' (.inl hb)
     clear hx hKc hK0
     simp only [frameOf, fill, setSlot, sg, Nat.reduceBEq, if_true, if_false, Nat.reduceAdd, Nat.reduceEqDiff, HSL.out] at hK ⊢
     go_wp2_with (fail)
     exact hK _ _ (Below.refl _ _) rfl
    ·intro xq w1 hb1 hx K hK0
     have hK := fun v w' hb => hK0 v w' (.inl hb)
     clear hx hKc hK0
     simp only [frameOf, fill, setSlot, sg, Nat.reduceBEq, if_true, if_false, Nat.reduceAdd, Nat.reduceEqDiff, HSL.out] at hK ⊢
     go_wp2_with (fail)
     exact hK _ _ (Below.refl _ _) rfl
    ·intro xq w1 hb1 hx K hK0
     have hK := fun v w' hb => hK0 v w' (.inl hb)
     have e16 : xq 16 = .slice (some ⟨B, o, none⟩) hs.length c := hx 0 (by rfl) (by rfl)
     have e17 : xq 17 = .int .i64 (k : Int) := hx 1 (by rfl) (by rfl)
     clear hx hKc hK0
     simp only [frameOf, fill, setSlot, sg, Nat.reduceBEq, if_true, if_false, Nat.reduceAdd, Nat.reduceEqDiff, HSL.out] at hK ⊢
     simp only [e16, e17] at hK ⊢
     clear e16 e17
     go_wp2_with (fail)
     exact hK _ _ (Below.refl _ _) rfl
    ·intro xq w1 hb1 hx K hK0
     have hK := fun v w' hb => hK0 v w' (.inl hb)
     have e18 : xq 18 = .pointer (some ⟨B, o + k * 4, none⟩) := hx 2 (by rfl) (by rfl)
     clear hx hKc hK0
     have qHX0 : w1.cell? ⟨B, o + k * 4, none⟩ = some (.int .i64 hf.warm) := (hb1.cell (p := ⟨B, o + k * 4, none⟩) hlB).trans HX0.out
     have qHX1 : w1.cell? ⟨B, o + k * 4 + 1, none⟩ = some (.int .i64 hf.mark) := (hb1.cell (p := ⟨B, o + k * 4 + 1, none⟩) hlB).trans HX1.out
     have qHX2 : w1.cell? ⟨B, o + k * 4 + 2, none⟩ = some (.int .i64 hf.lo) := (hb1.cell (p := ⟨B, o + k * 4 + 2, none⟩) hlB).trans HX2.out
     have qHX3 : w1.cell? ⟨B, o + k * 4 + 3, none⟩ = some (.int .i64 hf.hi) := (hb1.cell (p := ⟨B, o + k * 4 + 3, none⟩) hlB).trans HX3.out
     simp only [frameOf, fill, setSlot, sg, Nat.reduceBEq, if_true, if_false, Nat.reduceAdd, Nat.reduceEqDiff, HSL.out] at hK ⊢
     simp only [e18] at hK ⊢
     clear e18
     go_wp2_with (fail)
     exact hK _ _ (Below.refl _ _) rfl
    ·intro xq w1 hb1 hx K hK0
     have hK := fun v w' hb => hK0 v w' (.inl hb)
     clear hx hKc hK0
     simp only [frameOf, fill, setSlot, sg, Nat.reduceBEq, if_true, if_false, Nat.reduceAdd, Nat.reduceEqDiff, HSL.out] at hK ⊢
     go_wp2_with (fail)
     exact hK _ _ (Below.refl _ _) rfl
    ·intro xq w1 hb1 hx K hK0
     have hK := fun v w' hb => hK0 v w' (.inl hb)
     clear hx hKc hK0
     simp only [frameOf, fill, setSlot, sg, Nat.reduceBEq, if_true, if_false, Nat.reduceAdd, Nat.reduceEqDiff, HSL.out] at hK ⊢
     go_wp2_with (fail)
     exact hK _ _ (Below.refl _ _) rfl
    ·intro xq w1 hb1 hx K hK0
     have hK := fun v w' hb => hK0 v w' (.inl hb)
     have e20 : xq 20 = .slice (some ⟨B', o', none⟩) hs.length c' := hx 4 (by rfl) (by rfl)
     have e21 : xq 21 = .int .i64 (k : Int) := hx 5 (by rfl) (by rfl)
     clear hx hKc hK0
     simp only [frameOf, fill, setSlot, sg, Nat.reduceBEq, if_true, if_false, Nat.reduceAdd, Nat.reduceEqDiff, HSL.out] at hK ⊢
     simp only [e20, e21] at hK ⊢
     clear e20 e21
     go_wp2_with (fail)
     exact hK _ _ (Below.refl _ _) rfl
    ·intro xq w1 hb1 hx K hK0
     have hK := fun v w' hb => hK0 v w' (.inl hb)
     have e22 : xq 22 = .pointer (some ⟨B', o' + k * 4, none⟩) := hx 6 (by rfl) (by rfl)
     clear hx hKc hK0
     have qHY0 : w1.cell? ⟨B', o' + k * 4, none⟩ = some (.int .i64 hf.warm) := (hb1.cell (p := ⟨B', o' + k * 4, none⟩) hlB').trans HY0.out
     have qHY1 : w1.cell? ⟨B', o' + k * 4 + 1, none⟩ = some (.int .i64 hf.mark) := (hb1.cell (p := ⟨B', o' + k * 4 + 1, none⟩) hlB').trans HY1.out
     have qHY2 : w1.cell? ⟨B', o' + k * 4 + 2, none⟩ = some (.int .i64 hf.lo) := (hb1.cell (p := ⟨B', o' + k * 4 + 2, none⟩) hlB').trans HY2.out
     have qHY3 : w1.cell? ⟨B', o' + k * 4 + 3, none⟩ = some (.int .i64 hf.hi) := (hb1.cell (p := ⟨B', o' + k * 4 + 3, none⟩) hlB').trans HY3.out
     simp only [frameOf, fill, setSlot, sg, Nat.reduceBEq, if_true, if_false, Nat.reduceAdd, Nat.reduceEqDiff, HSL.out] at hK ⊢
     simp only [e22] at hK ⊢
     clear e22
     go_wp2_with (fail)
     exact hK _ _ (Below.refl _ _) rfl
    ·intro xq w1 hb1 hx K hK0
     have hK := fun v w' hb => hK0 v w' (.inl hb)
     have e19 : xq 19 = .agg #[.int .i64 hf.warm, .int .i64 hf.mark, .int .i64 hf.lo, .int .i64 hf.hi] := hx 3 (by rfl) (by rfl)
     have e23 : xq 23 = .agg #[.int .i64 hf.warm, .int .i64 hf.mark, .int .i64 hf.lo, .int .i64 hf.hi] := hx 7 (by rfl) (by rfl)
     clear hx hKc hK0
     have hne := neq_bin hf.warm hf.mark hf.lo hf.hi
     simp only [frameOf, fill, setSlot, sg, Nat.reduceBEq, if_true, if_false, Nat.reduceAdd, Nat.reduceEqDiff, HSL.out] at hK ⊢
     simp only [e19, e23] at hK ⊢
     clear e19 e23
     go_wp2_with (fail)
     exact hK _ _ (Below.refl _ _) rfl
   ·intro xq w1 hb1 hx
    have e16 : xq 16 = .slice (some ⟨B, o, none⟩) hs.length c := hx 0 (by decide)
    have e17 : xq 17 = .int .i64 (k : Int) := hx 1 (by decide)
    have e18 : xq 18 = .pointer (some ⟨B, o + k * 4, none⟩) := hx 2 (by decide)
    have e19 : xq 19 = .agg #[.int .i64 hf.warm, .int .i64 hf.mark, .int .i64 hf.lo, .int .i64 hf.hi] := hx 3 (by decide)
    have e20 : xq 20 = .slice (some ⟨B', o', none⟩) hs.length c' := hx 4 (by decide)
    have e21 : xq 21 = .int .i64 (k : Int) := hx 5 (by decide)
    have e22 : xq 22 = .pointer (some ⟨B', o' + k * 4, none⟩) := hx 6 (by decide)
    have e23 : xq 23 = .agg #[.int .i64 hf.warm, .int .i64 hf.mark, .int .i64 hf.lo, .int .i64 hf.hi] := hx 7 (by decide)
    have e24 : xq 24 = .bool false := hx 8 (by decide)
    clear hx
    simp only [frameOf, fill, setSlot, sg, Nat.reduceBEq, if_true, if_false, Nat.reduceAdd, Nat.reduceEqDiff, HSL.out]
    simp only [e16, e17, e18, e19, e20, e21, e22, e23, e24]
    clear e16 e17 e18 e19 e20 e21 e22 e23 e24
    refine hKc _ _ ?_
    go_wp2_with fail
    go_roundw
    case rel => exact ⟨k + 1, by go_num, hlt, hb1⟩
    case measure => simp [intOf]; omega
  ·have hkl : k = hs.length := by omega
   subst hkl
   go_wp2_with fail
   go_ret
   exact ⟨rfl, hBr⟩
theorem eqBin_same (A A' : Option Addr) (c c' : Nat) (hs : List Bn) (w : World) (hA : BinsAt w A hs) (hA' : BinsAt w A' hs) (hl : hs.length ≤ 1000) :
  Calls Try.prog 66 #[.slice A hs.length c, .slice A' hs.length c'] w fun e w' => e = .returned (.bool true) ∧ Below w.heap.size w w' := by
 have HA := Lib.hid hA
 have HA' := Lib.hid hA'
 clear hA hA'
 go_enter Try.func66, Try.ntmps66
 go_wp2_with (go_at_call 101; refine (equalBin_same A A' c c' hs _ HA.out HA'.out hl).mono ?_; rintro e w2 ⟨rfl, hb2⟩)
 go_ret
 exact ⟨rfl, hb2⟩
theorem eqlIn_rises (n : Nat) (a0 a1 a2 a3 a4 a5 : Int) (w : World) : (Op.equalIn (n + 2) 22 (.agg #[.int .i64 a0, .int .i64 a1, .int .i64 a2, .int .i64 a3, .int .i64 a4, .int .i64 a5]) (.agg #[.int .i64 a0, .int .i64 a1, .int .i64 a2, .int .i64 a3, .int .i64 a4, .int .i64 a5])).run Try.prog w = .ok true w := by
 have hu : Try.prog.underlying 22 = some (.array 6 3) := by kernel_rfl
 have hi : (sizeOf 3).run Try.prog w = .ok 1 w := by kernel_rfl
 unfold Op.equalIn
 simp [Sem.run_bind, run_underlying hu, hi, show List.range' 0 6 = [0, 1, 2, 3, 4, 5] from rfl, go_sem]
theorem eql_rises (a0 a1 a2 a3 a4 a5 : Int) (w : World) : (binOp .eql 22 (.agg #[.int .i64 a0, .int .i64 a1, .int .i64 a2, .int .i64 a3, .int .i64 a4, .int .i64 a5]) (.agg #[.int .i64 a0, .int .i64 a1, .int .i64 a2, .int .i64 a3, .int .i64 a4, .int .i64 a5])).run Try.prog w = .ok (.bool true) w := by
 simp only [binOp, Op.equal, Sem.run_bind]
 rw [show Op.maxDepth = (Op.maxDepth - 2) + 2 from rfl, eqlIn_rises]
 rfl
set_option maxRecDepth 100000 in
set_option maxHeartbeats 4000000 in
theorem same_same (b : Br) (A A' : Option Addr) (c c' : Nat) (bs : List Bn) (w : World) (hA : BinsAt w A bs) (hA' : BinsAt w A' bs) (hl : bs.length ≤ 1000) :
  Calls Try.prog 21 #[.agg #[.int .i64 b.cool, .int .i64 b.gangs, .int .i64 b.r0, .int .i64 b.r1, .int .i64 b.r2, .int .i64 b.r3, .int .i64 b.r4, .int .i64 b.r5, .slice A bs.length c], .agg #[.int .i64 b.cool, .int .i64 b.gangs, .int .i64 b.r0, .int .i64 b.r1, .int .i64 b.r2, .int .i64 b.r3, .int .i64 b.r4, .int .i64 b.r5, .slice A' bs.length c']] w fun e w' => e = .returned (.bool true) ∧ Below w.heap.size w w' := by
 have HA := Lib.hid hA
 have HA' := Lib.hid hA'
 clear hA hA'
 have her := eql_rises b.r0 b.r1 b.r2 b.r3 b.r4 b.r5
 go_enter Try.func21, Try.ntmps21
 go_wp2_with (go_at_call 66; refine (eqBin_same A A' c c' bs _ (HA.out.up zg) (HA'.out.up zg) hl).mono ?_; rintro e w2 ⟨rfl, hb2⟩)
 go_ret
 exact ⟨rfl, Below.trans zg (hb2.mono (by first | exact Nat.le_refl _ | (simp; done) | (simp; omega)))⟩
set_option maxRecDepth 100000 in
set_option maxHeartbeats 4000000 in
theorem great_any (b : Br) (A : Option Addr) (c n : Nat) (hn : n ≤ 9223372036854775807) (w : World) :
  Calls Try.prog 9 #[.agg #[.int .i64 b.cool, .int .i64 b.gangs, .int .i64 b.r0, .int .i64 b.r1, .int .i64 b.r2, .int .i64 b.r3, .int .i64 b.r4, .int .i64 b.r5, .slice A n c]] w fun e w' => e = .returned (.bool (decide (8 < n))) ∧ Below w.heap.size w w' := by
 by_cases h : 8 < n
 ·have h' : (8 : Int) < n := by omega
  go_enter Try.func9, Try.ntmps9
  go_wp2_with fail
  go_ret
  exact ⟨by first | rfl | (rw [decide_eq_true h]; rfl), zg⟩
 ·have h' : ¬ (8 : Int) < n := by omega
  go_enter Try.func9, Try.ntmps9
  go_wp2_with fail
  go_ret
  exact ⟨by first | rfl | (rw [decide_eq_false h]; rfl), zg⟩
def OwnInts (w : World) (B : Nat) (v : Value) (xs : List Int) : Prop := w.ownsRow B 3 1 v xs.length (xs.map (Value.int .i64))
theorem OwnInts.up {w w' : World} {B : Nat} {v : Value} {xs : List Int} (h : OwnInts w B v xs) (hb : Below w.heap.size w w') : OwnInts w' B v xs := rowq_up h hb
theorem OwnInts.at_ {w : World} {B : Nat} {v : Value} {xs : List Int} (h : OwnInts w B v xs) : ∃ A c, v = .slice A xs.length c ∧ xs.length ≤ c ∧ (A = none → xs.length = 0 ∧ c = 0) ∧ IntsAt w A xs := by
 obtain ⟨A, c, rfl, hc, hn, hat⟩ := rowq_val h
 refine ⟨A, c, rfl, hc, hn, fun hp => ?_⟩
 obtain ⟨g, rfl, _, hcell⟩ := hat hp
 exact ⟨g, 0, rfl, fun k x hx => by rw [Nat.zero_add]; exact hcell k _ (by rw [List.getElem?_map, hx]; rfl)⟩
theorem info_int : (Try.prog.info? 3).map (fun i => (i.zero, i.size, i.bytes)) = some (some (.int .i64 0), 1, 8) := by kernel_rfl
theorem und_ints : Try.prog.underlying 55 = some (.slice 3) := by kernel_rfl
theorem append_ints (w : World) (ty : TypeId) (g n d B : Nat) (G : Option Addr) (xs : List Int) (hown : w.ownsRow B 3 1 (.slice (some ⟨g, 0, none⟩) 0 n) 0 []) (hn : xs.length ≤ n) (hG : IntsAt w G xs) (hd : G = none → xs.length = 0 ∧ d = 0) :
  ∃ v w', (Builtin.append_ #[55, 55] ty #[.slice (some ⟨g, 0, none⟩) 0 n, .slice G xs.length d]).run Try.prog w = .ok v w' ∧ OwnInts w' B v xs ∧ w.grownBy w' (some g) := by
 obtain ⟨i0, hi, hz0, hz1, hz2⟩ := info_parts info_int
 cases G with
 | none =>
  obtain ⟨h0, rfl⟩ := hd rfl
  have e : xs = [] := List.eq_nil_of_length_eq_zero h0
  subst e
  exact ⟨_, w, run_append_owned_none (P := Try.prog) (w := w) B 55 ty 3 i0 1 und_ints hi _ 0 [] hown, hown, grow_refl w g⟩
 | some a =>
  obtain ⟨w', hrun, ho, hg⟩ := run_append_fits (P := Try.prog) (w := w) B 55 ty 3 i0 1 und_ints hi hz1 g 0 n [] hown a xs.length d (xs.map (Value.int .i64)) (by simp) (by
   intro j u hj
   rw [List.getElem?_map] at hj
   cases hx : xs[j]? with
   | none => rw [hx] at hj; cases hj
   | some x =>
    rw [hx] at hj
    cases hj
    obtain ⟨B', o, e, hc⟩ := hG (by have := (List.getElem?_eq_some_iff.1 hx).1; omega)
    cases e
    rw [Addr.add_mid]
    exact hc j x hx) (by
   intro v hv
   obtain ⟨x, _, rfl⟩ := List.mem_map.1 hv
   rfl) (by omega)
  simp only [Nat.zero_add, List.nil_append] at ho hrun
  exact ⟨_, w', hrun, ho, hg⟩
set_option maxRecDepth 100000 in
set_option maxHeartbeats 2000000 in
theorem DupInts_any (G : Option Addr) (d : Nat) (xs : List Int) (w : World) (hG : IntsAt w G xs) (hl : xs.length ≤ 1000) (hd : G = none → xs.length = 0 ∧ d = 0) :
  Calls Try.prog 67 #[.slice G xs.length d] w fun e w' => ∃ v, e = .returned v ∧ OwnInts w' w.heap.size v xs ∧ Below w.heap.size w w' := by
 obtain ⟨i0, hi, hz0, hz1, hz2⟩ := info_parts info_int
 obtain ⟨w2, hrun2, hown2, hgr2⟩ := run_make_own (P := Try.prog) (w := w) w.heap.size 55 3 i0 _ 1 und_ints hi hz0 hz1 .i64 .i64 xs.length (by rw [hz2]; omega) (by unfold maxLen; omega) (Nat.le_refl _)
 have hb2 := below_none hgr2
 obtain ⟨v, w3, hrun3, hown3, hgr3⟩ := append_ints w2 55 w.heap.size xs.length d w.heap.size G xs hown2 (Nat.le_refl _) (hG.up hb2) hd
 have HO := Lib.hid hown3
 have HB : Hid (Below w.heap.size w w3) := Lib.hid (hb2.grown hgr3 hb2.size (fun k hk => by cases hk; exact Nat.le_refl _))
 clear hG hown2 hgr2 hown3 hgr3 hb2
 go_enter Try.func67, Try.ntmps67
 go_wp2_with (at_builtin; (refine wpList_append_run _ rfl _ _ _ _ rfl _ _ rfl rfl hrun3 ?_))
 go_ret
 exact ⟨v, rfl, HO.out, HB.out⟩
def warmList (cool r k : Int) : Int → List (List Int) → List Int
 | _, [] => []
 | g, l :: p => ((if l.contains k then min g cool else g) + r) :: warmList cool r k ((if l.contains k then min g cool else g) + r) p
theorem warm_step {cool r k g : Int} {p : List (List Int)} {d : Nat} {l : List Int} (h : p[d]? = some l) : warmList cool r k g (p.drop d) = ((if l.contains k then min g cool else g) + r) :: warmList cool r k ((if l.contains k then min g cool else g) + r) (p.drop (d + 1)) := by
 obtain ⟨hl, rfl⟩ := List.getElem?_eq_some_iff.1 h
 rw [List.drop_eq_getElem_cons hl, warmList]
theorem warm_len (cool r k : Int) : ∀ (p : List (List Int)) (g : Int), (warmList cool r k g p).length = p.length := by
 intro p
 induction p with
 | nil => intro g; rfl
 | cons l p ih => intro g; rw [warmList, List.length_cons, ih, List.length_cons]
set_option maxRecDepth 100000 in
set_option maxHeartbeats 40000000 in
theorem refWarmth_any (b : Br) (A : Option Addr) (c : Nat) (bs : List Bn) (P : Option Addr) (q : Nat) (p : List (List Int)) (w : World) (hA : BinsAt w A bs) (hl : bs.length ≤ 1000) (hP : PlanAt w P p) (hpl : p.length ≤ 20000) (hll : ∀ l ∈ p, l.length ≤ 1000) (hE : barnErr b bs = 0) (k : Nat) (x : Bn) (hx : bs[k]? = some x) (m : Nat) (hm6 : m < 6) :
  Calls Try.prog 25 #[.agg #[.int .i64 b.cool, .int .i64 b.gangs, .int .i64 b.r0, .int .i64 b.r1, .int .i64 b.r2, .int .i64 b.r3, .int .i64 b.r4, .int .i64 b.r5, .slice A bs.length c], .slice P p.length q, .int .i64 (k : Int), .int .i64 (m : Int)] w fun e w' => ∃ A' c', e = .returned (.slice A' p.length c') ∧ OwnInts w' w.heap.size (.slice A' p.length c') (warmList b.cool (b.rise m) k x.warm p) ∧ Below w.heap.size w w' := by
 obtain ⟨_, _, _, _, _, _, _, _, hw0, hw1, hc0, hc1, -⟩ := good_bin hE hx
 have hx60 : x.warm ≤ 60 := by have := (good_bin hE hx); obtain ⟨_, _, _, _, _, _, _, h60, _, h1, _⟩ := this; omega
 have hr := riseOk_cases (rise_in (barn_right hE).2.2.2.1 (m : Int))
 obtain ⟨r, hrr⟩ : ∃ z, b.rise m = z := ⟨_, rfl⟩
 rw [hrr] at hr ⊢
 have HRR := Lib.hid hrr
 obtain ⟨E0, oo, rfl, hcell⟩ := hA (by have := (List.getElem?_eq_some_iff.1 hx).1; omega)
 have hk : k < bs.length := (List.getElem?_eq_some_iff.1 hx).1
 have hk' : (k : Int) < bs.length := by omega
 have KE : Hid (w.cell? ⟨E0, oo + k * 4, none⟩ = some (.int .i64 x.warm)) := Lib.hid (hcell k x hx 0 _ rfl)
 have ke := KE.out
 have lE : E0 < w.heap.size := World.block_lt_of_cell? w _ ke
 have HP := Lib.hid hP
 have HLL := Lib.hid hll
 have h6m : (m : Int) < 6 := by omega
 have hr20 : 0 ≤ r ∧ r ≤ 20 := by omega
 obtain ⟨hr0, hr20⟩ := hr20
 obtain ⟨W, hW⟩ : ∃ z, warmList b.cool r k x.warm p = z := ⟨_, rfl⟩
 rw [hW]
 have HW := Lib.hid hW
 have HWL : Hid (W.length = p.length) := Lib.hid (by rw [← hW, warm_len])
 clear hcell hP hll hrr hE hx hW hr
 obtain ⟨ti, hti, hti0, hti1, hti2⟩ := info_parts info_int
 go_enter Try.func25, Try.ntmps25
 go_wp2_with fail
 go_loopw [10, 9, 11] (fun v10 v9 v11 wr => ∃ (d : Nat) (g : Int) (sv : Value), v11 = .int .i64 (d : Int) ∧ v10 = .int .i64 g ∧ v9 = sv ∧ d ≤ p.length ∧ 0 ≤ g ∧ g ≤ 60 + 20 * d ∧ Hid (W = W.take d ++ warmList b.cool r k g (p.drop d)) ∧ wr.ownsRow (w.heap.size + 1) 3 1 sv d ((W.take d).map (Value.int .i64)) ∧ Below w.heap.size w wr ∧ Holds wr w.heap.size 33 #[.int .i64 b.cool, .int .i64 b.gangs, .int .i64 b.r0, .int .i64 b.r1, .int .i64 b.r2, .int .i64 b.r3, .int .i64 b.r4, .int .i64 b.r5, .slice (some ⟨E0, oo, none⟩) bs.length c]) (fun _ _ v11 _ => p.length - (intOf v11).toNat)
 case atStart => exact ⟨0, x.warm, .slice none 0 0, rfl, rfl, rfl, Nat.zero_le _, hw0, by omega, Lib.hid (by rw [List.drop_zero, HW.out]; rfl), ⟨rfl, .inl ⟨rfl, rfl⟩⟩, zg, by (repeat first | (with_reducible first | assumption | apply Holds.set4 | apply Holds.set2 | apply Holds.putL | ((refine Holds.new' _ _ ?_); (simp; done)) | refine Holds.alloc ?_ _ | refine Holds.drew ?_ | refine Holds.far ?_ (by simp only [ne_eq]; omega) _) | rfl)⟩
 case round =>
  obtain ⟨d, g, sv, rfl, rfl, rfl, hd, hg0, hg1, hWd, hrow, hB, hH⟩ := hrel
  obtain ⟨SA, sc, esv, hsc, _⟩ := rowq_val hrow
  subst esv
  have HROW := Lib.hid hrow
  have HB := Lib.hid hB
  have HH := Lib.hid hH
  have kb0 : wr.cell? ⟨w.heap.size, 0, none⟩ = some (.int .i64 b.cool) := hH.cell 0
  have krm : wr.cell? ⟨w.heap.size, 2 + m, none⟩ = some (.int .i64 r) := by rw [← HRR.out]; exact rise_nat hH hm6
  have lb := hH.lt
  clear hrow hB hH
  by_cases hlt : d < p.length
  ·have hlt' : (d : Int) < p.length := by omega
   obtain ⟨l, hl2⟩ : ∃ z, p[d]? = some z := ⟨_, List.getElem?_eq_getElem hlt⟩
   obtain ⟨B0, po, rfl, hrowP⟩ := (HP.out.up HB.out) (by omega)
   obtain ⟨LA, lc, kl, hI, -⟩ := hrowP d l hl2
   have lP := World.block_lt_of_cell? wr _ kl
   have hlen : l.length ≤ 1000 := HLL.out l (List.mem_of_getElem? hl2)
   have HL2 := Lib.hid hl2
   have HI := Lib.hid hI
   clear hrowP hI hl2
   obtain ⟨T, hT⟩ : ∃ z, l.contains (k : Int) = z := ⟨_, rfl⟩
   obtain ⟨g', hg'⟩ : ∃ z, (if l.contains (k : Int) then min g b.cool else g) + r = z := ⟨_, rfl⟩
   have hstep := warm_step (cool := b.cool) (r := r) (k := (k : Int)) (g := g) HL2.out
   rw [hg'] at hstep
   have HWn : Hid (W = W.take (d + 1) ++ warmList b.cool r k g' (p.drop (d + 1))) := Lib.hid (by
   have hlw : d < W.length := by rw [HWL.out]; exact hlt
   have e1 := hWd.out
   rw [hstep] at e1
   have e2 : W[d]? = some g' := by
    rw [e1, List.getElem?_append_right (by rw [List.length_take]; omega), List.length_take, Nat.min_eq_left (by omega), Nat.sub_self]
    rfl
   have e3 : W.take (d + 1) = W.take d ++ [g'] := by rw [List.take_add_one, e2]; rfl
   rw [e3, List.append_assoc]
   exact e1)
   have HWg : Hid (W.take (d + 1) = W.take d ++ [g']) := Lib.hid (by
   have hlw : d < W.length := by rw [HWL.out]; exact hlt
   have e1 := hWd.out
   rw [hstep] at e1
   have e2 : W[d]? = some g' := by
    rw [e1, List.getElem?_append_right (by rw [List.length_take]; omega), List.length_take, Nat.min_eq_left (by omega), Nat.sub_self]
    rfl
   rw [List.take_add_one, e2]; rfl)
   clear hstep
   have HGE := Lib.hid hg'
   rw [hT] at hg'
   have HT := Lib.hid hT
   clear hT
   cases T
   ·have hg2 : g + r = g' := by simpa using hg'
    clear hg'
    go_wp2_with (first | (go_at_call 68; refine (has_any LA lc l (k : Int) _ (HI.out.up zg) hlen).mono ?_; rw [HT.out]; rintro e w2 ⟨rfl, hb2⟩; have HB2 := Lib.hid (HB.out.trans (hb2.mono HB.out.size)); have HH2 := Lib.hid (HH.out.up hb2); have kc0 : w2.cell? ⟨w.heap.size, 0, none⟩ = some (.int .i64 b.cool) := HH2.out.cell 0; have kcm : w2.cell? ⟨w.heap.size, 2 + m, none⟩ = some (.int .i64 r) := up_cell hb2 krm; have lc2 := HH2.out.lt; have hs2 := hb2.size) | (at_builtin; (refine wpList_append_own _ rfl _ _ 55 rfl (w.heap.size + 1) 3 ti _ 1 8 und_ints hti hti0 hti1 hti2 rfl (by decide) _ _ _ rfl (rowq_up (rowq_up HROW.out hb2) zg) ⟨_, 0, none⟩ 1 1 [.int .i64 g'] rfl rfl (holds_news (Holds.new' _ _ (by simp))) (by intro v hv; simp only [List.mem_cons, List.not_mem_nil, or_false] at hv; subst hv; rfl) (by unfold maxLen; omega) (by omega) (by simp; omega) ?_); intro v5 w5 hown5 hgrow5 _; have HG5 := Lib.hid hgrow5; have HO5 := Lib.hid hown5; have HH5 := Lib.hid (held_row (by have h := HH2.out; exact zp0 : Holds _ w.heap.size 33 #[.int .i64 b.cool, .int .i64 b.gangs, .int .i64 b.r0, .int .i64 b.r1, .int .i64 b.r2, .int .i64 b.r3, .int .i64 b.r4, .int .i64 b.r5, .slice (some ⟨E0, oo, none⟩) bs.length c]) hgrow5 (fun e => by have := rowq_block HROW.out _ e; omega)); have HB5 := Lib.hid ((Below.grown (HB2.out.trans zg) hgrow5 (by simp; omega) (fun k hk => by have := rowq_block HROW.out k hk; omega)) : Below w.heap.size w w5); clear hown5 hgrow5))
    go_roundw
    case rel => exact ⟨d + 1, g', _, by go_num, rfl, rfl, by omega, by omega, by omega, HWn.out |> Lib.hid, (by rw [HWg.out, List.map_append]; exact HO5.out), HB5.out, HH5.out⟩
    case measure => first | (simp [intOf]; done) | (simp [intOf]; omega)
   ·by_cases hgc : g > b.cool
    ·have hg2 : b.cool + r = g' := by rw [← hg']; simp; omega
     clear hg'
     go_wp2_with (first | (go_at_call 68; refine (has_any LA lc l (k : Int) _ (HI.out.up zg) hlen).mono ?_; rw [HT.out]; rintro e w2 ⟨rfl, hb2⟩; have HB2 := Lib.hid (HB.out.trans (hb2.mono HB.out.size)); have HH2 := Lib.hid (HH.out.up hb2); have kc0 : w2.cell? ⟨w.heap.size, 0, none⟩ = some (.int .i64 b.cool) := HH2.out.cell 0; have kcm : w2.cell? ⟨w.heap.size, 2 + m, none⟩ = some (.int .i64 r) := up_cell hb2 krm; have lc2 := HH2.out.lt; have hs2 := hb2.size) | (at_builtin; (refine wpList_append_own _ rfl _ _ 55 rfl (w.heap.size + 1) 3 ti _ 1 8 und_ints hti hti0 hti1 hti2 rfl (by decide) _ _ _ rfl (rowq_up (rowq_up HROW.out hb2) zg) ⟨_, 0, none⟩ 1 1 [.int .i64 g'] rfl rfl (holds_news (Holds.new' _ _ (by simp))) (by intro v hv; simp only [List.mem_cons, List.not_mem_nil, or_false] at hv; subst hv; rfl) (by unfold maxLen; omega) (by omega) (by simp; omega) ?_); intro v5 w5 hown5 hgrow5 _; have HG5 := Lib.hid hgrow5; have HO5 := Lib.hid hown5; have HH5 := Lib.hid (held_row (by have h := HH2.out; exact zp0 : Holds _ w.heap.size 33 #[.int .i64 b.cool, .int .i64 b.gangs, .int .i64 b.r0, .int .i64 b.r1, .int .i64 b.r2, .int .i64 b.r3, .int .i64 b.r4, .int .i64 b.r5, .slice (some ⟨E0, oo, none⟩) bs.length c]) hgrow5 (fun e => by have := rowq_block HROW.out _ e; omega)); have HB5 := Lib.hid ((Below.grown (HB2.out.trans zg) hgrow5 (by simp; omega) (fun k hk => by have := rowq_block HROW.out k hk; omega)) : Below w.heap.size w w5); clear hown5 hgrow5))
     go_roundw
     case rel => exact ⟨d + 1, g', _, by go_num, rfl, rfl, by omega, by omega, by omega, HWn.out |> Lib.hid, (by rw [HWg.out, List.map_append]; exact HO5.out), HB5.out, HH5.out⟩
     case measure => first | (simp [intOf]; done) | (simp [intOf]; omega)
    ·have hgc' : g ≤ b.cool := by omega
     have hg2 : g + r = g' := by rw [← hg']; simp; omega
     clear hg'
     go_wp2_with (first | (go_at_call 68; refine (has_any LA lc l (k : Int) _ (HI.out.up zg) hlen).mono ?_; rw [HT.out]; rintro e w2 ⟨rfl, hb2⟩; have HB2 := Lib.hid (HB.out.trans (hb2.mono HB.out.size)); have HH2 := Lib.hid (HH.out.up hb2); have kc0 : w2.cell? ⟨w.heap.size, 0, none⟩ = some (.int .i64 b.cool) := HH2.out.cell 0; have kcm : w2.cell? ⟨w.heap.size, 2 + m, none⟩ = some (.int .i64 r) := up_cell hb2 krm; have lc2 := HH2.out.lt; have hs2 := hb2.size) | (at_builtin; (refine wpList_append_own _ rfl _ _ 55 rfl (w.heap.size + 1) 3 ti _ 1 8 und_ints hti hti0 hti1 hti2 rfl (by decide) _ _ _ rfl (rowq_up (rowq_up HROW.out hb2) zg) ⟨_, 0, none⟩ 1 1 [.int .i64 g'] rfl rfl (holds_news (Holds.new' _ _ (by simp))) (by intro v hv; simp only [List.mem_cons, List.not_mem_nil, or_false] at hv; subst hv; rfl) (by unfold maxLen; omega) (by omega) (by simp; omega) ?_); intro v5 w5 hown5 hgrow5 _; have HG5 := Lib.hid hgrow5; have HO5 := Lib.hid hown5; have HH5 := Lib.hid (held_row (by have h := HH2.out; exact zp0 : Holds _ w.heap.size 33 #[.int .i64 b.cool, .int .i64 b.gangs, .int .i64 b.r0, .int .i64 b.r1, .int .i64 b.r2, .int .i64 b.r3, .int .i64 b.r4, .int .i64 b.r5, .slice (some ⟨E0, oo, none⟩) bs.length c]) hgrow5 (fun e => by have := rowq_block HROW.out _ e; omega)); have HB5 := Lib.hid ((Below.grown (HB2.out.trans zg) hgrow5 (by simp; omega) (fun k hk => by have := rowq_block HROW.out k hk; omega)) : Below w.heap.size w w5); clear hown5 hgrow5))
     go_roundw
     case rel => exact ⟨d + 1, g', _, by go_num, rfl, rfl, by omega, by omega, by omega, HWn.out |> Lib.hid, (by rw [HWg.out, List.map_append]; exact HO5.out), HB5.out, HH5.out⟩
     case measure => first | (simp [intOf]; done) | (simp [intOf]; omega)
  ·have hdp : d = p.length := by omega
   have hlt' : ¬ (d : Int) < p.length := by omega
   have hro := HROW.out
   have hWW : W.take d = W := by rw [List.take_of_length_le (by rw [HWL.out, hdp]; exact Nat.le_refl _)]
   rw [hWW, hdp] at hro
   have HRO := Lib.hid hro
   have HDP := Lib.hid hdp
   clear hro hWW hdp
   go_wp2_with fail
   go_ret
   exact ⟨SA, sc, by rw [HDP.out]; rfl, (by unfold OwnInts; rw [HWL.out]; exact rowq_mono HRO.out (by omega)), HB.out⟩
def longB (p : List (List Int)) : Bool := decide (24 < p.length) || p.any (fun l => decide (8 < l.length))
set_option maxRecDepth 100000 in
set_option maxHeartbeats 40000000 in
theorem long_any (P : Option Addr) (q : Nat) (p : List (List Int)) (w : World) (hP : PlanAt w P p) (hpl : p.length ≤ 9223372036854775807) (hll : ∀ l ∈ p, l.length ≤ 9223372036854775807) :
  Calls Try.prog 22 #[.slice P p.length q] w fun e w' => e = .returned (.bool (longB p)) ∧ Below w.heap.size w w' := by
 have HP := Lib.hid hP
 have HLL := Lib.hid hll
 obtain ⟨T, hT⟩ : ∃ z, longB p = z := ⟨_, rfl⟩
 rw [hT]
 have HT := Lib.hid hT
 clear hP hll hT
 by_cases h24 : 24 < p.length
 ·have h24' : (24 : Int) < p.length := by omega
  have HT1 : Hid (T = true) := Lib.hid (by rw [← HT.out]; unfold longB; rw [decide_eq_true h24]; rfl)
  go_enter Try.func22, Try.ntmps22
  go_wp2_with fail
  go_ret
  exact ⟨by rw [HT1.out]; rfl, zg⟩
 ·have h24' : ¬ (24 : Int) < p.length := by omega
  have HT2 : Hid (T = p.any (fun l => decide (8 < l.length))) := Lib.hid (by rw [← HT.out]; unfold longB; rw [decide_eq_false h24]; rfl)
  go_enter Try.func22, Try.ntmps22
  go_wp2_with fail
  go_loopw [10] (fun v10 wr => ∃ k : Nat, v10 = .int .i64 (k : Int) ∧ k ≤ p.length ∧ Hid (T = (p.drop k).any (fun l => decide (8 < l.length))) ∧ Below w.heap.size w wr) (fun v10 _ => p.length - (intOf v10).toNat)
  case atStart => exact ⟨0, rfl, Nat.zero_le _, Lib.hid (by rw [List.drop_zero]; exact HT2.out), zg⟩
  case round =>
   obtain ⟨k, rfl, hk, hE, hB⟩ := hrel
   have HB := Lib.hid hB
   clear hB
   by_cases hlt : k < p.length
   ·have hlt' : (k : Int) < p.length := by omega
    obtain ⟨l, hl2⟩ : ∃ z, p[k]? = some z := ⟨_, List.getElem?_eq_getElem hlt⟩
    obtain ⟨B0, oo, rfl, hrow⟩ := (HP.out.up HB.out) (by omega)
    obtain ⟨LA, lc, kl, -⟩ := hrow k l hl2
    have lP := World.block_lt_of_cell? wr _ kl
    have hlen : l.length ≤ 9223372036854775807 := HLL.out l (List.mem_of_getElem? hl2)
    have HD : Hid (p.drop k = l :: p.drop (k + 1)) := Lib.hid (by obtain ⟨h, rfl⟩ := List.getElem?_eq_some_iff.1 hl2; exact List.drop_eq_getElem_cons h)
    clear hrow hl2
    by_cases h8 : 8 < l.length
    ·have h8' : (8 : Int) < l.length := by omega
     have HT3 : Hid (T = true) := Lib.hid (by rw [hE.out, HD.out, List.any_cons, decide_eq_true h8]; rfl)
     go_wp2_with fail
     go_ret
     exact ⟨by rw [HT3.out]; rfl, HB.out⟩
    ·have h8' : ¬ (8 : Int) < l.length := by omega
     have HT3 : Hid (T = (p.drop (k + 1)).any (fun l => decide (8 < l.length))) := Lib.hid (by rw [hE.out, HD.out, List.any_cons, decide_eq_false h8]; rfl)
     go_wp2_with fail
     go_roundw
     case rel => exact ⟨k + 1, by go_num, hlt, HT3.out |> Lib.hid, HB.out⟩
     case measure => first | (simp [intOf]; done) | (simp [intOf]; omega)
   ·have hkl : k = p.length := by omega
    have hlt' : ¬ (k : Int) < p.length := by omega
    have HT3 : Hid (T = false) := Lib.hid (by rw [hE.out, hkl, List.drop_length]; rfl)
    go_wp2_with fail
    go_ret
    exact ⟨by rw [HT3.out]; rfl, HB.out⟩
theorem info_ints : (Try.prog.info? 55).map (fun i => (i.zero, i.size, i.bytes)) = some (some (.slice none 0 0), 1, 24) := by kernel_rfl
theorem und_rows : Try.prog.underlying 50 = some (.slice 55) := by kernel_rfl
theorem own_above {w : World} {B n c : Nat} {A : Option Addr} {xs : List Int} (h : OwnInts w B (.slice A n c) xs) : ∀ g o, A = some ⟨g, o, none⟩ → 0 < xs.length → B ≤ g := by
 intro g o e h0
 obtain ⟨A', c', ev, _, _, hat⟩ := rowq_val h
 cases ev
 obtain ⟨g', e', hg, _⟩ := hat h0
 rw [e] at e'
 cases e'
 exact hg
theorem make_rows (w1 : World) (n : Nat) (hn : n ≤ 1000) : ∃ w2 cur, (Instr.makeSlice 50 (.int .i64 (n : Int)) (.int .i64 (n : Int))).run Try.prog w1 = .ok (.slice (some ⟨w1.heap.size, 0, none⟩) n n) w2 ∧ Holds w2 w1.heap.size 55 cur ∧ cur.size = n ∧ Below w1.heap.size w1 w2 := by
 obtain ⟨i0, hi, hz0, hz1, hz2⟩ := info_parts info_ints
 obtain ⟨w2, hrun, ⟨hl, h⟩, hg⟩ := run_makeSlice_full (P := Try.prog) (w := w1) w1.heap.size 50 55 i0 _ 1 und_rows hi hz0 hz1 .i64 .i64 n (by omega) (by rw [hz2]; omega) (by unfold maxLen; omega) (Nat.le_refl _)
 rcases h with ⟨h, _⟩ | ⟨g, cap, cur, hv, _, hc, _, _, hsz, _⟩
 ·cases h
 ·cases hv
  exact ⟨w2, cur, hrun, hc, by simpa using hsz, ⟨hg.os, hg.tape, hg.output, hg.size, fun k hk => hg.block k hk (by simp)⟩⟩

end Go.Proofs.Ytokafjkinkafiaa
