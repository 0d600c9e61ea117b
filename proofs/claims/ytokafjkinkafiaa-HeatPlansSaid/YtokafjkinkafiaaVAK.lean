import Derived.Shelf.Abstract
import Derived.Test.YtokafjkinkafiaaVAA
import Derived.Test.YtokafjkinkafiaaVAJ
set_option linter.unusedSimpArgs false
set_option linter.unusedVariables false
namespace Go.Proofs.Ytokafjkinkafiaa
open Go.RowKit
open Go.RowKit Go.Shelf
def Quiet (bs : List Bn) (ws : List (Int × Int)) (n : Nat) : Prop := ∀ (k : Nat) (x : Bn) (s : Int × Int), k < n → bs[k]? = some x → ws[k]? = some s → ¬ x.mark < s.2
def Calm (bs : List Bn) (ys : List (Nat × List (Int × Int))) : Prop := ∀ y ∈ ys, Quiet bs y.2 bs.length
def BurnAt (bs : List Bn) (ys : List (Nat × List (Int × Int))) (day bin : Nat) (any : Bool) : Prop :=
 (any = false → day = 0 ∧ bin = 0 ∧ Calm bs ys) ∧
 (any = true → ∃ (pr : List (Nat × List (Int × Int))) (y : Nat × List (Int × Int)) (x : Bn) (s : Int × Int), pr ++ [y] <+: ys ∧ Calm bs pr ∧ Quiet bs y.2 bin ∧ y.1 = day ∧ bs[bin]? = some x ∧ y.2[bin]? = some s ∧ x.mark < s.2)
theorem quiet_step {bs : List Bn} {ws : List (Int × Int)} {n : Nat} {x : Bn} {s : Int × Int} (h : Quiet bs ws n) (hx : bs[n]? = some x) (hs : ws[n]? = some s) (hn : ¬ x.mark < s.2) : Quiet bs ws (n + 1) := by
 intro k x' s' hk hx' hs'
 by_cases e : k = n
 ·subst e
  rw [hx] at hx'; rw [hs] at hs'
  cases hx'; cases hs'
  exact hn
 ·exact h k x' s' (by omega) hx' hs'
theorem calm_step {bs : List Bn} {ys : List (Nat × List (Int × Int))} {y : Nat × List (Int × Int)} (h : Calm bs ys) (hy : Quiet bs y.2 bs.length) : Calm bs (ys ++ [y]) := by
 intro z hz
 rcases List.mem_append.1 hz with h1 | h1
 ·exact h z h1
 ·rw [List.mem_singleton] at h1
  subst h1
  exact hy
theorem walls_four (b : Br) (bs : List Bn) : ∀ (p : List (List Int)) (d : Nat) (ws : List (Int × Int)), ws.length = 4 → ∀ y ∈ wallsFrom b bs d ws p, y.2.length = 4 := by
 intro p
 induction p with
 | nil => intro d ws _ y h; simp [wallsFrom] at h
 | cons l p ih =>
  intro d ws h4 y h
  rw [wallsFrom] at h
  have h5 : (stepW b bs l ws).length = 4 := by rw [step_len, h4]
  rcases List.mem_cons.1 h with rfl | h
  ·exact h5
  ·exact ih _ _ h5 y h
theorem und_int0 : Try.prog.underlying 3 = some (.int .i64) := by kernel_rfl
theorem und_bool0 : Try.prog.underlying 4 = some .bool := by kernel_rfl
theorem mem_pre {α : Type} {pre all : List α} {x : α} (h : pre ++ [x] <+: all) : x ∈ all := h.subset (by simp)
theorem pre_at {α : Type} {pr all : List α} {y : α} (h : pr ++ [y] <+: all) : all[pr.length]? = some y := by
 obtain ⟨r, rfl⟩ := h
 rw [List.append_assoc, List.getElem?_append_right (Nat.le_refl _), Nat.sub_self]
 rfl
theorem pre_in {α : Type} {pr all : List α} {y z : α} {i : Nat} (h : pr ++ [y] <+: all) (hi : i < pr.length) (hz : all[i]? = some z) : z ∈ pr := by
 obtain ⟨r, rfl⟩ := h
 rw [List.append_assoc, List.getElem?_append_left hi] at hz
 exact List.mem_of_getElem? hz
theorem burn_first {b : Br} {bs : List Bn} {p : List (List Int)} {day bin : Nat} {any : Bool} (hE : barnErr b bs = 0) (h : BurnAt bs (wallsFrom b bs 0 (firstOf bs bs.length) p) day bin any) : First (burnF b bs p) day bin any := by
 have hn4 : bs.length ≤ 4 := by have := (barn_right hE).1; simp only [within, Bool.and_eq_true, decide_eq_true_eq] at this; omega
 obtain ⟨Y, hY⟩ : ∃ z, wallsFrom b bs 0 (firstOf bs bs.length) p = z := ⟨_, rfl⟩
 have hlen : Y.length = p.length := by rw [← hY]; exact walls_len _ _ _ _ _
 have hat : ∀ (i : Nat) (y : Nat × List (Int × Int)), Y[i]? = some y → y.1 = i ∧ WallAt b bs p (i + 1) y.2 := fun i y hy => by
  have h1 := walls_at (P := p) p 0 (firstOf bs bs.length) rfl (wall_first hn4) i y (by rw [hY]; exact hy)
  simpa using h1
 rw [hY] at h
 have hit : ∀ (k m d : Nat), burnF b bs p k m d = true → ∃ (x : Bn) (y : Nat × List (Int × Int)) (s : Int × Int), bs[k]? = some x ∧ Y[d]? = some y ∧ y.2[k]? = some s ∧ x.mark < s.2 := fun k m d ht => by
  have hk : k < bs.length := by
   by_cases hk : k < bs.length
   ·exact hk
   ·rw [burn_out (by omega)] at ht; cases ht
  have hd : d < p.length := by
   by_cases hd : d < p.length
   ·exact hd
   ·rw [burn_len (by omega)] at ht; cases ht
  obtain ⟨x, hx⟩ : ∃ z, bs[k]? = some z := ⟨_, List.getElem?_eq_getElem hk⟩
  obtain ⟨y, hy⟩ : ∃ z, Y[d]? = some z := ⟨_, List.getElem?_eq_getElem (by omega)⟩
  have hw := (hat d y hy).2
  obtain ⟨s, hs, -⟩ := hw.2 k x hx
  exact ⟨x, y, s, hx, hy, hs, (burn_wall hE hw hx hs).1 ⟨m, ht⟩⟩
 refine ⟨fun ha => ?_, fun ha => ?_⟩
 ·obtain ⟨h1, h2, h3⟩ := h.1 ha
  refine ⟨h1, h2, fun k m d => ?_⟩
  cases hb : burnF b bs p k m d with
  | false => rfl
  | true =>
   obtain ⟨x, y, s, hx, hy, hs, hlt⟩ := hit k m d hb
   exact absurd hlt (h3 y (List.mem_of_getElem? hy) k x s (List.getElem?_eq_some_iff.1 hx).1 hx hs)
 ·obtain ⟨pr, y, x, s, hpre, hc, hq, hday, hx, hs, hlt⟩ := h.2 ha
  have hy := pre_at hpre
  obtain ⟨h1, hw⟩ := hat _ _ hy
  have hdl : day = pr.length := by omega
  refine ⟨by rw [hdl]; exact (burn_wall hE hw hx hs).2 hlt, fun k m d ht => ?_⟩
  obtain ⟨x', y', s', hx', hy', hs', hlt'⟩ := hit k m d ht
  by_cases hd : d < pr.length
  ·exact absurd hlt' (hc y' (pre_in hpre hd hy') k x' s' (List.getElem?_eq_some_iff.1 hx').1 hx' hs')
  ·by_cases hd2 : d = pr.length
   ·subst hd2
    rw [hy] at hy'
    cases hy'
    right
    refine ⟨hdl, ?_⟩
    by_cases hk : k < bin
    ·exact absurd hlt' (hq k x' s' hk hx' hs')
    ·omega
   ·left; omega
attribute [local go_sem] Oper.semAt_some
set_option maxRecDepth 100000 in
set_option maxHeartbeats 40000000 in
theorem burns_any (b : Br) (A : Option Addr) (c : Nat) (bs : List Bn) (hE : barnErr b bs = 0) (P : Option Addr) (q : Nat) (p : List (List Int)) (hpl : p.length ≤ 20000) (hll : ∀ l ∈ p, l.length ≤ 1000) (hin : ∀ l ∈ p, ∀ z ∈ l, within z 0 ((bs.length : Int) - 1) = true) (w : World) (hA : BinsAt w A bs) (hP : PlanAt w P p) :
  Calls Try.prog 72 #[.agg #[.int .i64 b.cool, .int .i64 b.gangs, .int .i64 b.r0, .int .i64 b.r1, .int .i64 b.r2, .int .i64 b.r3, .int .i64 b.r4, .int .i64 b.r5, .slice A bs.length c], .slice P p.length q] w fun e w' => ∃ (day bin : Nat) (any : Bool), e = .returned (.tuple #[.int .i64 (day : Int), .int .i64 (bin : Int), .bool any]) ∧ BurnAt bs (wallsFrom b bs 0 (firstOf bs bs.length) p) day bin any ∧ Below w.heap.size w w' := by
 have hgood := barn_right hE
 have hn4 : bs.length ≤ 4 := by have := hgood.1; simp only [within, Bool.and_eq_true, decide_eq_true_eq] at this; omega
 clear hgood
 have HE := Lib.hid hE
 have HLL := Lib.hid hll
 have HIN := Lib.hid hin
 have HA := Lib.hid hA
 have HP := Lib.hid hP
 clear hE hll hin hA hP
 have H4 : Hid (∀ y ∈ (wallsFrom b bs 0 (firstOf bs bs.length) p), y.2.length = 4) := Lib.hid (walls_four b bs p 0 _ (first_len (Nat.le_refl _) hn4))
 refine (callsIn_wide (n := 8)).1 (callsIn_of_wp_marks Try.func72 rfl trivial ?_ rfl)
 refine wpIn_wide.2 ?_
 simp only [Try.ntmps72, List.size_toArray, List.length_cons, List.length_nil, Nat.reduceAdd, Nat.reduceSub, Array.replicate_succ, Array.replicate_zero, List.push_toArray, List.append_toArray, List.nil_append, List.cons_append]
 go_wp2_with fail
 go_step3
 go_wp2_with fail
 go_step3
 go_wp2_with (go_at_call 71; refine (ends_any b A c bs.length P q p.length _).mono ?_; rintro e w2 ⟨rfl, hb2, hx1, hx2⟩)
 simp only [World.size_alloc] at hb2 hx1 hx2
 have HX1 := Lib.hid hx1
 have HX2 := Lib.hid hx2
 have HBB : Hid (Holds w2 w.heap.size 25 #[.int .i64 b.cool, .int .i64 b.gangs, .int .i64 b.r0, .int .i64 b.r1, .int .i64 b.r2, .int .i64 b.r3, .int .i64 b.r4, .int .i64 b.r5, .slice A bs.length c]) := Lib.hid (Holds.low (show Holds _ w.heap.size 25 #[.int .i64 b.cool, .int .i64 b.gangs, .int .i64 b.r0, .int .i64 b.r1, .int .i64 b.r2, .int .i64 b.r3, .int .i64 b.r4, .int .i64 b.r5, .slice A bs.length c] from by (repeat first | (with_reducible first | assumption | apply Holds.set4 | apply Holds.set2 | apply Holds.putL | ((refine Holds.new' _ _ ?_); (simp; done)) | refine Holds.alloc ?_ _ | refine Holds.drew ?_ | refine Holds.far ?_ (by simp only [ne_eq]; omega) _) | rfl)) hb2 (by omega))
 have HR4 : Hid (Holds w2 (w.heap.size + 1) 3 #[.int .i64 0]) := Lib.hid (Holds.low (show Holds _ (w.heap.size + 1) 3 #[.int .i64 0] from by (repeat first | (with_reducible first | assumption | apply Holds.set4 | apply Holds.set2 | apply Holds.putL | ((refine Holds.new' _ _ ?_); (simp; done)) | refine Holds.alloc ?_ _ | refine Holds.drew ?_ | refine Holds.far ?_ (by simp only [ne_eq]; omega) _) | rfl)) hb2 (by omega))
 have HR5 : Hid (Holds w2 (w.heap.size + 1 + 1) 3 #[.int .i64 0]) := Lib.hid (Holds.low (show Holds _ (w.heap.size + 1 + 1) 3 #[.int .i64 0] from by (repeat first | (with_reducible first | assumption | apply Holds.set4 | apply Holds.set2 | apply Holds.putL | ((refine Holds.new' _ _ ?_); (simp; done)) | refine Holds.alloc ?_ _ | refine Holds.drew ?_ | refine Holds.far ?_ (by simp only [ne_eq]; omega) _) | rfl)) hb2 (by omega))
 have HR6 : Hid (Holds w2 (w.heap.size + 1 + 1 + 1) 4 #[.bool false]) := Lib.hid (Holds.low (show Holds _ (w.heap.size + 1 + 1 + 1) 4 #[.bool false] from by (repeat first | (with_reducible first | assumption | apply Holds.set4 | apply Holds.set2 | apply Holds.putL | ((refine Holds.new' _ _ ?_); (simp; done)) | refine Holds.alloc ?_ _ | refine Holds.drew ?_ | refine Holds.far ?_ (by simp only [ne_eq]; omega) _) | rfl)) hb2 (by omega))
 have hS2 : w.heap.size + 1 + 1 + 1 + 1 + 1 ≤ w2.heap.size := by have := HX2.out.lt; omega
 have HB2 : Hid (Below w.heap.size w w2) := Lib.hid ((zg : Below w.heap.size w _).trans (hb2.mono (by omega)))
 clear hb2 hx1 hx2
 refine wpIn_wide.1 (range_own (m := 6) (t := 110) (gf := 102) (lb := #[.pointer (some ⟨w.heap.size + 1 + 1 + 1 + 1, 0, none⟩), .pointer (some ⟨w.heap.size + 1 + 1 + 1 + 1 + 1, 0, none⟩)]) rfl (enters_of Try.func102 (by kernel_rfl) rfl) (encs := yEnc) (all := (wallsFrom b bs 0 (firstOf bs bs.length) p))
  (ends_seq b A c bs HE.out P q p hpl HLL.out HIN.out w w2 HA.out HP.out HB2.out (w.heap.size + 1 + 1 + 1 + 1) (w.heap.size + 1 + 1 + 1 + 1 + 1) HX1.out HX2.out (fun k => k < w.heap.size ∨ k = w.heap.size + 1 + 1 + 1 + 1 ∨ k = w.heap.size + 1 + 1 + 1 + 1 + 1) (fun k h => .inl h) (.inr (.inl rfl)) (.inr (.inr rfl))) (fun _ => rfl) (fun pre W => Calm bs pre ∧ Below w2.heap.size w2 W) (fun c pre W => c = .exit 0 ∧ ∃ (pr : List (Nat × List (Int × Int))) (y : Nat × List (Int × Int)) (k : Nat) (x : Bn) (s : Int × Int), (pre = pr ++ [y] ∧ Calm bs pr ∧ Quiet bs y.2 k ∧ bs[k]? = some x ∧ y.2[k]? = some s ∧ x.mark < s.2) ∧ Holds W (w.heap.size + 1) 3 #[.int .i64 (y.1 : Int)] ∧ Holds W (w.heap.size + 1 + 1) 3 #[.int .i64 (k : Int)] ∧ Holds W (w.heap.size + 1 + 1 + 1) 4 #[.bool true] ∧ Below w.heap.size w W)
  (ownT_and (ownT_pure _ _ _) (ownT_below _ (Nat.le_refl _) (Nat.le_refl _)))
  (fun c s X Y row hs hg hr => by obtain ⟨h0, pr, y, k, x, s', hp, h4, h5, h6, hb⟩ := hs; exact ⟨h0, pr, y, k, x, s', hp, ownT_holds (β := Unit) 110 (by omega) () X Y row h4 hg hr, ownT_holds (β := Unit) 110 (by omega) () X Y row h5 hg hr, ownT_holds (β := Unit) 110 (by omega) () X Y row h6 hg hr, ownT_below (β := Unit) 110 (Nat.le_refl _) (by omega) () X Y row hb hg hr⟩)
  ⟨(fun y hy => by cases hy), Below.refl _ _⟩
  (fun x a' W => ∃ Bx, w2.heap.size ≤ Bx ∧ Holds W Bx 110 (x.2.flatMap spCells).toArray ∧ a' = { tmps := #[.agg #[.int .i64 b.cool, .int .i64 b.gangs, .int .i64 b.r0, .int .i64 b.r1, .int .i64 b.r2, .int .i64 b.r3, .int .i64 b.r4, .int .i64 b.r5, .slice A bs.length c], .slice P p.length q, .pointer (some ⟨w.heap.size, 0, none⟩), undef, .pointer (some ⟨w.heap.size + 1, 0, none⟩), .pointer (some ⟨w.heap.size + 1 + 1, 0, none⟩), .pointer (some ⟨w.heap.size + 1 + 1 + 1, 0, none⟩), .int .i64 (x.1 : Int), .pointer (some ⟨Bx, 0, none⟩), undef, undef, .agg #[.int .i64 b.cool, .int .i64 b.gangs, .int .i64 b.r0, .int .i64 b.r1, .int .i64 b.r2, .int .i64 b.r3, .int .i64 b.r4, .int .i64 b.r5, .slice A bs.length c], .slice P p.length q, .func (.func 102) #[] #[.pointer (some ⟨w.heap.size + 1 + 1 + 1 + 1, 0, none⟩), .pointer (some ⟨w.heap.size + 1 + 1 + 1 + 1 + 1, 0, none⟩)], .int .i64 (x.1 : Int), .agg (x.2.flatMap spCells).toArray, undef, undef, undef, undef, undef, undef, undef, undef, undef, undef, undef, undef, undef, undef, undef, undef, undef, undef, undef, undef, undef], defers := [] })
  (fun x a' _ X Y row hs hg hr => by obtain ⟨Bx, h1, h2, h3⟩ := hs; exact ⟨Bx, h1, (hg.block Bx h2.lt (fun e => by obtain ⟨o, ho, hc⟩ := (hr Bx e.symm).2; rw [show X.heap[Bx]? = _ from h2] at ho; cases ho; cases hc)).trans h2, h3⟩) ?assign ?body ?done ?stop)
 case assign =>
  rintro l pre x W K hpre ⟨hcalm, hb⟩ hK
  obtain ⟨day, wl⟩ := x
  have h4 := H4.out _ (mem_pre hpre)
  obtain ⟨s0, s1, s2, s3, rfl⟩ := four_of h4
  simp only [yEnc, wall_vals]
  gi_wp2
  have hbel : Below W.heap.size W _ := (Below.refl W.heap.size W).alloc (Nat.le_refl _) (.cells #[.int .i64 s0.1, .int .i64 s0.2, .int .i64 s1.1, .int .i64 s1.2, .int .i64 s2.1, .int .i64 s2.2, .int .i64 s3.1, .int .i64 s3.2] 110)
  exact hK _ _ (KeepsFrom.of_below hbel) (KeptT.of hbel) ⟨hcalm, hb.trans (hbel.mono hb.size)⟩ ⟨W.heap.size, hb.size, Holds.new _ _ _, rfl⟩
 case body =>
  rintro l pre x a' W hl hpre ⟨hcalm, hb⟩ ⟨Bx, hBx, HX, rfl⟩
  obtain ⟨day, wl⟩ := x
  have h4 := H4.out _ (mem_pre hpre)
  have HCA := Lib.hid hcalm
  have HBW := Lib.hid hb
  have HX := Lib.hid HX
  have HPRE := Lib.hid hpre
  have HW4 : Hid (wl.length = 4) := Lib.hid h4
  have HBA := Lib.hid (HBB.out.up hb)
  have HW := Lib.hid (HB2.out.trans (hb.mono HB2.out.size))
  have HA6 := Lib.hid (HA.out.up HW.out)
  have hsW := hb.size
  clear hcalm hb hpre h4
  have HR4W := Lib.hid (HR4.out.up HBW.out)
  have HR5W := Lib.hid (HR5.out.up HBW.out)
  have HR6W := Lib.hid (HR6.out.up HBW.out)
  have kb0 : W.cell? ⟨w.heap.size, 0, none⟩ = some (.int .i64 b.cool) := HBA.out.cell 0
  have kb1 : W.cell? ⟨w.heap.size, 1, none⟩ = some (.int .i64 b.gangs) := HBA.out.cell 1
  have kb2 : W.cell? ⟨w.heap.size, 2, none⟩ = some (.int .i64 b.r0) := HBA.out.cell 2
  have kb3 : W.cell? ⟨w.heap.size, 3, none⟩ = some (.int .i64 b.r1) := HBA.out.cell 3
  have kb4 : W.cell? ⟨w.heap.size, 4, none⟩ = some (.int .i64 b.r2) := HBA.out.cell 4
  have kb5 : W.cell? ⟨w.heap.size, 5, none⟩ = some (.int .i64 b.r3) := HBA.out.cell 5
  have kb6 : W.cell? ⟨w.heap.size, 6, none⟩ = some (.int .i64 b.r4) := HBA.out.cell 6
  have kb7 : W.cell? ⟨w.heap.size, 7, none⟩ = some (.int .i64 b.r5) := HBA.out.cell 7
  have kb8 : W.cell? ⟨w.heap.size, 8, none⟩ = some (.slice A bs.length c) := HBA.out.cell 8
  have lb := HBA.out.lt
  gi_wp2_with fail
  gi_loopw [19] (fun v19 wr => ∃ k : Nat, v19 = .int .i64 (k : Int) ∧ k ≤ bs.length ∧ Hid (Quiet bs wl k) ∧ Hid (Below W.heap.size W wr)) (fun v19 _ => bs.length - (intOf v19).toNat)
  case atStart => exact ⟨0, rfl, Nat.zero_le _, Lib.hid (fun k x s h => by omega), Lib.hid (Below.refl _ _)⟩
  case round =>
   obtain ⟨k, rfl, hk, HQ, HBR⟩ := hrel
   by_cases hlt : k < bs.length
   ·have hlt' : (k : Int) < bs.length := by omega
    have hk4 : (k : Int) < 4 := by omega
    obtain ⟨x, hx⟩ : ∃ z, bs[k]? = some z := ⟨_, List.getElem?_eq_getElem hlt⟩
    obtain ⟨s, hs⟩ : ∃ z, wl[k]? = some z := ⟨_, List.getElem?_eq_getElem (by rw [HW4.out]; omega)⟩
    have HXR := Lib.hid (HX.out.up HBR.out)
    obtain ⟨E0, oo, rfl, hcell⟩ := (HA6.out.up HBR.out) (by omega)
    have ke0 : wr.cell? ⟨E0, oo + k * 4, none⟩ = some (.int .i64 x.warm) := hcell k x hx 0 _ rfl
    have ke1 : wr.cell? ⟨E0, oo + k * 4 + 1, none⟩ = some (.int .i64 x.mark) := hcell k x hx 1 _ rfl
    have ke2 : wr.cell? ⟨E0, oo + k * 4 + 2, none⟩ = some (.int .i64 x.lo) := hcell k x hx 2 _ rfl
    have ke3 : wr.cell? ⟨E0, oo + k * 4 + 3, none⟩ = some (.int .i64 x.hi) := hcell k x hx 3 _ rfl
    have lE := World.block_lt_of_cell? wr _ ke0
    obtain ⟨kw0, kw1⟩ := warm_cell HXR.out hs
    have lX := HXR.out.lt
    have HXX := Lib.hid hx
    have HSS := Lib.hid hs
    clear hcell hx hs kw0
    have hSR := HBR.out.size
    have HR4R := Lib.hid (HR4W.out.up HBR.out)
    have kr4 : wr.cell? ⟨w.heap.size + 1, 0, none⟩ = some (.int .i64 0) := HR4R.out.cell 0
    have zr4 : wr.frozen? ⟨w.heap.size + 1, 0, none⟩ = false := HR4R.out.frozen 0
    have lr4 := HR4R.out.lt
    have HR5R := Lib.hid (HR5W.out.up HBR.out)
    have kr5 : wr.cell? ⟨w.heap.size + 1 + 1, 0, none⟩ = some (.int .i64 0) := HR5R.out.cell 0
    have zr5 : wr.frozen? ⟨w.heap.size + 1 + 1, 0, none⟩ = false := HR5R.out.frozen 0
    have lr5 := HR5R.out.lt
    have HR6R := Lib.hid (HR6W.out.up HBR.out)
    have kr6 : wr.cell? ⟨w.heap.size + 1 + 1 + 1, 0, none⟩ = some (.bool false) := HR6R.out.cell 0
    have zr6 : wr.frozen? ⟨w.heap.size + 1 + 1 + 1, 0, none⟩ = false := HR6R.out.frozen 0
    have lr6 := HR6R.out.lt
    by_cases hgt : x.mark < s.2
    ·gi_wp2_with fail
     rename_i Kc hKc
     have HSL := Lib.hid (show slotsOf [some 24, some 25, some 26, some 27, some 28, some 29, some 30] = [24, 25, 26, 27, 28, 29, 30] from rfl)
     refine wp_region_partsGI (by kernel_rfl) [some 24, some 25, some 26, some 27, some 28, some 29, some 30] (fun jq xq w' => match jq with
      | 0 => xq 24 = .int .i64 (k : Int)
      | 1 => xq 25 = .pointer (some ⟨Bx, k * 2, none⟩)
      | 2 => xq 26 = .pointer (some ⟨Bx, k * 2 + 1, none⟩)
      | 3 => xq 27 = .int .i64 s.2
      | 4 => xq 28 = .pointer (some ⟨wr.heap.size, 1, none⟩)
      | 5 => xq 29 = .int .i64 x.mark
      | 6 => xq 30 = .bool true
      | _ => True) [[24], [25], [26], [27], [28], [29], [30]] [] (fun w' => Below wr.heap.size wr w' ∧ wr.heap.size + 1 ≤ w'.heap.size ∧ Holds w' wr.heap.size 39 #[.int .i64 x.warm, .int .i64 x.mark, .int .i64 x.lo, .int .i64 x.hi]) (by kernel_rfl)  ?_ ?_ (fun w' w'' hb g => ⟨g.1.trans (hb.mono g.1.size), Nat.le_trans g.2.1 hb.size, g.2.2.up hb⟩) (⟨zg, by (simp; done), by (repeat first | (with_reducible first | assumption | apply Holds.set4 | apply Holds.set2 | apply Holds.putL | ((refine Holds.new' _ _ ?_); (simp; done)) | refine Holds.alloc ?_ _ | refine Holds.drew ?_ | refine Holds.far ?_ (by simp only [ne_eq]; omega) _) | rfl)⟩) ?_ ?_ ?_
     ·intro jq xq xq' wqq h hv
      match jq, h, hv with
      | 0, h, hv => show xq' 24 = .int .i64 (k : Int); rw [← h 24 (by decide)]; exact hv
      | 1, h, hv => show xq' 25 = .pointer (some ⟨Bx, k * 2, none⟩); rw [← h 25 (by decide)]; exact hv
      | 2, h, hv => show xq' 26 = .pointer (some ⟨Bx, k * 2 + 1, none⟩); rw [← h 26 (by decide)]; exact hv
      | 3, h, hv => show xq' 27 = .int .i64 s.2; rw [← h 27 (by decide)]; exact hv
      | 4, h, hv => show xq' 28 = .pointer (some ⟨wr.heap.size, 1, none⟩); rw [← h 28 (by decide)]; exact hv
      | 5, h, hv => show xq' 29 = .int .i64 x.mark; rw [← h 29 (by decide)]; exact hv
      | 6, h, hv => show xq' 30 = .bool true; rw [← h 30 (by decide)]; exact hv
      | _ + 7, _, _ => trivial
     ·intro jq xq wqq w' hb' hv
      match jq, hv with
      | 0, hv => exact hv
      | 1, hv => exact hv
      | 2, hv => exact hv
      | 3, hv => exact hv
      | 4, hv => exact hv
      | 5, hv => exact hv
      | 6, hv => exact hv
      | _ + 7, _ => trivial
     ·intro jq hj
      match jq, hj with
      | 0, hj => exact absurd hj (by decide)
      | 1, hj => exact absurd hj (by decide)
      | 2, hj => exact absurd hj (by decide)
      | 3, hj => exact absurd hj (by decide)
      | 4, hj => exact absurd hj (by decide)
      | 5, hj => exact absurd hj (by decide)
      | 6, hj => exact absurd hj (by decide)
      | _ + 7, _ => trivial
     ·refine ⟨?_, ?_, ?_, ?_, ?_, ?_, ?_, trivial⟩
      ·intro xq w1 hb1 hx K hK0
       have hK := fun v w' hb => hK0 v w' (.inl hb)
       clear hx hKc hK0
       simp only [frameOf, fill, setSlot, sg, Nat.reduceBEq, if_true, if_false, Nat.reduceAdd, Nat.reduceEqDiff, HSL.out] at hK ⊢
       gi_wp2_with (fail)
       exact hK _ _ (Below.refl _ _) rfl
      ·intro xq w1 hb1 hx K hK0
       have hK := fun v w' hb => hK0 v w' (.inl hb)
       have e24 : xq 24 = .int .i64 (k : Int) := hx 0 (by rfl) (by rfl)
       clear hx hKc hK0
       simp only [frameOf, fill, setSlot, sg, Nat.reduceBEq, if_true, if_false, Nat.reduceAdd, Nat.reduceEqDiff, HSL.out] at hK ⊢
       simp only [e24] at hK ⊢
       clear e24
       gi_wp2_with (fail)
       exact hK _ _ (Below.refl _ _) rfl
      ·intro xq w1 hb1 hx K hK0
       have hK := fun v w' hb => hK0 v w' (.inl hb)
       have e25 : xq 25 = .pointer (some ⟨Bx, k * 2, none⟩) := hx 1 (by rfl) (by rfl)
       clear hx hKc hK0
       simp only [frameOf, fill, setSlot, sg, Nat.reduceBEq, if_true, if_false, Nat.reduceAdd, Nat.reduceEqDiff, HSL.out] at hK ⊢
       simp only [e25] at hK ⊢
       clear e25
       gi_wp2_with (fail)
       exact hK _ _ (Below.refl _ _) rfl
      ·intro xq w1 hb1 hx K hK0
       have hK := fun v w' hb => hK0 v w' (.inl hb)
       have e26 : xq 26 = .pointer (some ⟨Bx, k * 2 + 1, none⟩) := hx 2 (by rfl) (by rfl)
       clear hx hKc hK0
       obtain ⟨q0, q1⟩ := warm_cell (HXR.out.up hb1.1) HSS.out
       simp only [frameOf, fill, setSlot, sg, Nat.reduceBEq, if_true, if_false, Nat.reduceAdd, Nat.reduceEqDiff, HSL.out] at hK ⊢
       simp only [e26] at hK ⊢
       clear e26
       gi_wp2_with (fail)
       exact hK _ _ (Below.refl _ _) rfl
      ·intro xq w1 hb1 hx K hK0
       have hK := fun v w' hb => hK0 v w' (.inl hb)
       clear hx hKc hK0
       simp only [frameOf, fill, setSlot, sg, Nat.reduceBEq, if_true, if_false, Nat.reduceAdd, Nat.reduceEqDiff, HSL.out] at hK ⊢
       gi_wp2_with (fail)
       exact hK _ _ (Below.refl _ _) rfl
      ·intro xq w1 hb1 hx K hK0
       have hK := fun v w' hb => hK0 v w' (.inl hb)
       have e28 : xq 28 = .pointer (some ⟨wr.heap.size, 1, none⟩) := hx 4 (by rfl) (by rfl)
       clear hx hKc hK0
       have q29 : w1.cell? ⟨wr.heap.size, 1, none⟩ = some (.int .i64 x.mark) := hb1.2.2.cell 1
       simp only [frameOf, fill, setSlot, sg, Nat.reduceBEq, if_true, if_false, Nat.reduceAdd, Nat.reduceEqDiff, HSL.out] at hK ⊢
       simp only [e28] at hK ⊢
       clear e28
       gi_wp2_with (fail)
       exact hK _ _ (Below.refl _ _) rfl
      ·intro xq w1 hb1 hx K hK0
       have hK := fun v w' hb => hK0 v w' (.inl hb)
       have e27 : xq 27 = .int .i64 s.2 := hx 3 (by rfl) (by rfl)
       have e29 : xq 29 = .int .i64 x.mark := hx 5 (by rfl) (by rfl)
       clear hx hKc hK0
       simp only [frameOf, fill, setSlot, sg, Nat.reduceBEq, if_true, if_false, Nat.reduceAdd, Nat.reduceEqDiff, HSL.out] at hK ⊢
       simp only [e27, e29] at hK ⊢
       clear e27 e29
       gi_wp2_with (fail)
       exact hK _ _ (Below.refl _ _) rfl
     ·intro xq w1 hb1 hx
      have e24 : xq 24 = .int .i64 (k : Int) := hx 0 (by decide)
      have e25 : xq 25 = .pointer (some ⟨Bx, k * 2, none⟩) := hx 1 (by decide)
      have e26 : xq 26 = .pointer (some ⟨Bx, k * 2 + 1, none⟩) := hx 2 (by decide)
      have e27 : xq 27 = .int .i64 s.2 := hx 3 (by decide)
      have e28 : xq 28 = .pointer (some ⟨wr.heap.size, 1, none⟩) := hx 4 (by decide)
      have e29 : xq 29 = .int .i64 x.mark := hx 5 (by decide)
      have e30 : xq 30 = .bool true := hx 6 (by decide)
      clear hx
      simp only [frameOf, fill, setSlot, sg, Nat.reduceBEq, if_true, if_false, Nat.reduceAdd, Nat.reduceEqDiff, HSL.out]
      simp only [e24, e25, e26, e27, e28, e29, e30]
      clear e24 e25 e26 e27 e28 e29 e30
      refine hKc _ _ ?_
      have hb7 := Lib.hid hb1.1
      have hs7 := hb1.2.1
      have HR4Z := HR4R.out.up hb7.out
      have kz4 : w1.cell? ⟨w.heap.size + 1, 0, none⟩ = some (.int .i64 0) := HR4Z.cell 0
      have zz4 : w1.frozen? ⟨w.heap.size + 1, 0, none⟩ = false := HR4Z.frozen 0
      have lz4 := HR4Z.lt
      have HR5Z := HR5R.out.up hb7.out
      have kz5 : w1.cell? ⟨w.heap.size + 1 + 1, 0, none⟩ = some (.int .i64 0) := HR5Z.cell 0
      have zz5 : w1.frozen? ⟨w.heap.size + 1 + 1, 0, none⟩ = false := HR5Z.frozen 0
      have lz5 := HR5Z.lt
      have HR6Z := HR6R.out.up hb7.out
      have kz6 : w1.cell? ⟨w.heap.size + 1 + 1 + 1, 0, none⟩ = some (.bool false) := HR6Z.cell 0
      have zz6 : w1.frozen? ⟨w.heap.size + 1 + 1 + 1, 0, none⟩ = false := HR6Z.frozen 0
      have lz6 := HR6Z.lt
      have HRZ := Lib.hid (And.intro HR4Z (And.intro HR5Z HR6Z))
      clear HR4Z HR5Z HR6Z hb1
      gi_wp2_with fail
      obtain ⟨HR4Z, HR5Z, HR6Z⟩ := HRZ.out
      have hW1 : Below W.heap.size W w1 := HBR.out.trans (hb7.out.mono hSR)
      refine ⟨(((KeepsFrom.of_below hW1).trans (KeepsFrom.set (by simp only; omega) _)).trans (KeepsFrom.set (by simp only; omega) _)).trans (KeepsFrom.set (by simp only; omega) _), rfl, pre, (day, wl), k, x, s, ⟨rfl, HCA.out, HQ.out, HXX.out, HSS.out, hgt⟩, by (repeat first | (with_reducible first | assumption | apply Holds.set4 | apply Holds.set2 | apply Holds.putL | ((refine Holds.new' _ _ ?_); (simp; done)) | refine Holds.alloc ?_ _ | refine Holds.drew ?_ | refine Holds.far ?_ (by simp only [ne_eq]; omega) _) | rfl), by (repeat first | (with_reducible first | assumption | apply Holds.set4 | apply Holds.set2 | apply Holds.putL | ((refine Holds.new' _ _ ?_); (simp; done)) | refine Holds.alloc ?_ _ | refine Holds.drew ?_ | refine Holds.far ?_ (by simp only [ne_eq]; omega) _) | rfl), by (repeat first | (with_reducible first | assumption | apply Holds.set4 | apply Holds.set2 | apply Holds.putL | ((refine Holds.new' _ _ ?_); (simp; done)) | refine Holds.alloc ?_ _ | refine Holds.drew ?_ | refine Holds.far ?_ (by simp only [ne_eq]; omega) _) | rfl), ?_⟩
      exact ((((HW.out.trans (hW1.mono HW.out.size)).setCell (by simp only; omega) _).setCell (by simp only; omega) _).setCell (by simp only; omega) _)
    ·have HNG := Lib.hid hgt
     have hdf : decide (x.mark < s.2) = false := decide_eq_false hgt
     gi_wp2_with fail
     rename_i Kc hKc
     have HSL := Lib.hid (show slotsOf [some 24, some 25, some 26, some 27, some 28, some 29, some 30] = [24, 25, 26, 27, 28, 29, 30] from rfl)
     refine wp_region_partsGI (by kernel_rfl) [some 24, some 25, some 26, some 27, some 28, some 29, some 30] (fun jq xq w' => match jq with
      | 0 => xq 24 = .int .i64 (k : Int)
      | 1 => xq 25 = .pointer (some ⟨Bx, k * 2, none⟩)
      | 2 => xq 26 = .pointer (some ⟨Bx, k * 2 + 1, none⟩)
      | 3 => xq 27 = .int .i64 s.2
      | 4 => xq 28 = .pointer (some ⟨wr.heap.size, 1, none⟩)
      | 5 => xq 29 = .int .i64 x.mark
      | 6 => xq 30 = .bool false
      | _ => True) [[24], [25], [26], [27], [28], [29], [30]] [] (fun w' => Below wr.heap.size wr w' ∧ wr.heap.size + 1 ≤ w'.heap.size ∧ Holds w' wr.heap.size 39 #[.int .i64 x.warm, .int .i64 x.mark, .int .i64 x.lo, .int .i64 x.hi]) (by kernel_rfl)  ?_ ?_ (fun w' w'' hb g => ⟨g.1.trans (hb.mono g.1.size), Nat.le_trans g.2.1 hb.size, g.2.2.up hb⟩) (⟨zg, by (simp; done), by (repeat first | (with_reducible first | assumption | apply Holds.set4 | apply Holds.set2 | apply Holds.putL | ((refine Holds.new' _ _ ?_); (simp; done)) | refine Holds.alloc ?_ _ | refine Holds.drew ?_ | refine Holds.far ?_ (by simp only [ne_eq]; omega) _) | rfl)⟩) ?_ ?_ ?_
     ·intro jq xq xq' wqq h hv
      match jq, h, hv with
      | 0, h, hv => show xq' 24 = .int .i64 (k : Int); rw [← h 24 (by decide)]; exact hv
      | 1, h, hv => show xq' 25 = .pointer (some ⟨Bx, k * 2, none⟩); rw [← h 25 (by decide)]; exact hv
      | 2, h, hv => show xq' 26 = .pointer (some ⟨Bx, k * 2 + 1, none⟩); rw [← h 26 (by decide)]; exact hv
      | 3, h, hv => show xq' 27 = .int .i64 s.2; rw [← h 27 (by decide)]; exact hv
      | 4, h, hv => show xq' 28 = .pointer (some ⟨wr.heap.size, 1, none⟩); rw [← h 28 (by decide)]; exact hv
      | 5, h, hv => show xq' 29 = .int .i64 x.mark; rw [← h 29 (by decide)]; exact hv
      | 6, h, hv => show xq' 30 = .bool false; rw [← h 30 (by decide)]; exact hv
      | _ + 7, _, _ => trivial
     ·intro jq xq wqq w' hb' hv
      match jq, hv with
      | 0, hv => exact hv
      | 1, hv => exact hv
      | 2, hv => exact hv
      | 3, hv => exact hv
      | 4, hv => exact hv
      | 5, hv => exact hv
      | 6, hv => exact hv
      | _ + 7, _ => trivial
     ·intro jq hj
      match jq, hj with
      | 0, hj => exact absurd hj (by decide)
      | 1, hj => exact absurd hj (by decide)
      | 2, hj => exact absurd hj (by decide)
      | 3, hj => exact absurd hj (by decide)
      | 4, hj => exact absurd hj (by decide)
      | 5, hj => exact absurd hj (by decide)
      | 6, hj => exact absurd hj (by decide)
      | _ + 7, _ => trivial
     ·refine ⟨?_, ?_, ?_, ?_, ?_, ?_, ?_, trivial⟩
      ·intro xq w1 hb1 hx K hK0
       have hK := fun v w' hb => hK0 v w' (.inl hb)
       clear hx hKc hK0
       simp only [frameOf, fill, setSlot, sg, Nat.reduceBEq, if_true, if_false, Nat.reduceAdd, Nat.reduceEqDiff, HSL.out] at hK ⊢
       gi_wp2_with (fail)
       exact hK _ _ (Below.refl _ _) rfl
      ·intro xq w1 hb1 hx K hK0
       have hK := fun v w' hb => hK0 v w' (.inl hb)
       have e24 : xq 24 = .int .i64 (k : Int) := hx 0 (by rfl) (by rfl)
       clear hx hKc hK0
       simp only [frameOf, fill, setSlot, sg, Nat.reduceBEq, if_true, if_false, Nat.reduceAdd, Nat.reduceEqDiff, HSL.out] at hK ⊢
       simp only [e24] at hK ⊢
       clear e24
       gi_wp2_with (fail)
       exact hK _ _ (Below.refl _ _) rfl
      ·intro xq w1 hb1 hx K hK0
       have hK := fun v w' hb => hK0 v w' (.inl hb)
       have e25 : xq 25 = .pointer (some ⟨Bx, k * 2, none⟩) := hx 1 (by rfl) (by rfl)
       clear hx hKc hK0
       simp only [frameOf, fill, setSlot, sg, Nat.reduceBEq, if_true, if_false, Nat.reduceAdd, Nat.reduceEqDiff, HSL.out] at hK ⊢
       simp only [e25] at hK ⊢
       clear e25
       gi_wp2_with (fail)
       exact hK _ _ (Below.refl _ _) rfl
      ·intro xq w1 hb1 hx K hK0
       have hK := fun v w' hb => hK0 v w' (.inl hb)
       have e26 : xq 26 = .pointer (some ⟨Bx, k * 2 + 1, none⟩) := hx 2 (by rfl) (by rfl)
       clear hx hKc hK0
       obtain ⟨q0, q1⟩ := warm_cell (HXR.out.up hb1.1) HSS.out
       simp only [frameOf, fill, setSlot, sg, Nat.reduceBEq, if_true, if_false, Nat.reduceAdd, Nat.reduceEqDiff, HSL.out] at hK ⊢
       simp only [e26] at hK ⊢
       clear e26
       gi_wp2_with (fail)
       exact hK _ _ (Below.refl _ _) rfl
      ·intro xq w1 hb1 hx K hK0
       have hK := fun v w' hb => hK0 v w' (.inl hb)
       clear hx hKc hK0
       simp only [frameOf, fill, setSlot, sg, Nat.reduceBEq, if_true, if_false, Nat.reduceAdd, Nat.reduceEqDiff, HSL.out] at hK ⊢
       gi_wp2_with (fail)
       exact hK _ _ (Below.refl _ _) rfl
      ·intro xq w1 hb1 hx K hK0
       have hK := fun v w' hb => hK0 v w' (.inl hb)
       have e28 : xq 28 = .pointer (some ⟨wr.heap.size, 1, none⟩) := hx 4 (by rfl) (by rfl)
       clear hx hKc hK0
       have q29 : w1.cell? ⟨wr.heap.size, 1, none⟩ = some (.int .i64 x.mark) := hb1.2.2.cell 1
       simp only [frameOf, fill, setSlot, sg, Nat.reduceBEq, if_true, if_false, Nat.reduceAdd, Nat.reduceEqDiff, HSL.out] at hK ⊢
       simp only [e28] at hK ⊢
       clear e28
       gi_wp2_with (fail)
       exact hK _ _ (Below.refl _ _) rfl
      ·intro xq w1 hb1 hx K hK0
       have hK := fun v w' hb => hK0 v w' (.inl hb)
       have e27 : xq 27 = .int .i64 s.2 := hx 3 (by rfl) (by rfl)
       have e29 : xq 29 = .int .i64 x.mark := hx 5 (by rfl) (by rfl)
       clear hx hKc hK0
       simp only [frameOf, fill, setSlot, sg, Nat.reduceBEq, if_true, if_false, Nat.reduceAdd, Nat.reduceEqDiff, HSL.out] at hK ⊢
       simp only [e27, e29] at hK ⊢
       clear e27 e29
       gi_wp2_with (fail)
       all_goals exact hK _ _ (Below.refl _ _) (by first | rfl | (rw [decide_eq_false (by have h := HNG.out; omega)]) | (simp; omega))
     ·intro xq w1 hb1 hx
      have e24 : xq 24 = .int .i64 (k : Int) := hx 0 (by decide)
      have e25 : xq 25 = .pointer (some ⟨Bx, k * 2, none⟩) := hx 1 (by decide)
      have e26 : xq 26 = .pointer (some ⟨Bx, k * 2 + 1, none⟩) := hx 2 (by decide)
      have e27 : xq 27 = .int .i64 s.2 := hx 3 (by decide)
      have e28 : xq 28 = .pointer (some ⟨wr.heap.size, 1, none⟩) := hx 4 (by decide)
      have e29 : xq 29 = .int .i64 x.mark := hx 5 (by decide)
      have e30 : xq 30 = .bool false := hx 6 (by decide)
      clear hx
      simp only [frameOf, fill, setSlot, sg, Nat.reduceBEq, if_true, if_false, Nat.reduceAdd, Nat.reduceEqDiff, HSL.out]
      simp only [e24, e25, e26, e27, e28, e29, e30]
      clear e24 e25 e26 e27 e28 e29 e30
      refine hKc _ _ ?_
      have hb7 := Lib.hid hb1.1
      have hs7 := hb1.2.1
      gi_wp2_with fail
      go_roundw
      case rel => exact ⟨k + 1, by go_num, hlt, Lib.hid (quiet_step HQ.out HXX.out HSS.out (by have h := HNG.out; omega)), Lib.hid (HBR.out.trans (hb7.out.mono hSR))⟩
      case measure => first | (simp [intOf]; done) | (simp [intOf]; omega)
   ·have hlt' : ¬ (k : Int) < bs.length := by omega
    have hkl : k = bs.length := by omega
    gi_wp2_with fail
    refine ⟨KeepsFrom.of_below HBR.out, KeptT.of HBR.out, calm_step HCA.out (by have h := HQ.out; rw [hkl] at h; exact h), HBW.out.trans (HBR.out.mono hsW)⟩
 case done =>
  rintro D W hD ⟨hcalm, hb⟩ hK
  have HCA := Lib.hid hcalm
  have HB := Lib.hid hb
  have HK := Lib.hid hK
  have hsW := hb.size
  have HR4R := Lib.hid (HR4.out.up HB.out)
  have kr4 : W.cell? ⟨w.heap.size + 1, 0, none⟩ = some (.int .i64 0) := HR4R.out.cell 0
  have zr4 : W.frozen? ⟨w.heap.size + 1, 0, none⟩ = false := HR4R.out.frozen 0
  have lr4 := HR4R.out.lt
  have HR5R := Lib.hid (HR5.out.up HB.out)
  have kr5 : W.cell? ⟨w.heap.size + 1 + 1, 0, none⟩ = some (.int .i64 0) := HR5R.out.cell 0
  have zr5 : W.frozen? ⟨w.heap.size + 1 + 1, 0, none⟩ = false := HR5R.out.frozen 0
  have lr5 := HR5R.out.lt
  have HR6R := Lib.hid (HR6.out.up HB.out)
  have kr6 : W.cell? ⟨w.heap.size + 1 + 1 + 1, 0, none⟩ = some (.bool false) := HR6R.out.cell 0
  have zr6 : W.frozen? ⟨w.heap.size + 1 + 1 + 1, 0, none⟩ = false := HR6R.out.frozen 0
  have lr6 := HR6R.out.lt
  clear hb hK
  go_wp2_with fail
  rename_i Kc hKc
  have HSL := Lib.hid (show slotsOf [some 34, some 35, some 36, none, none, none] = [34, 35, 36] from rfl)
  refine wp_region_partsG (by kernel_rfl) [some 34, some 35, some 36, none, none, none] (fun jq xq w' => match jq with
   | 0 => xq 34 = .int .i64 0
   | 1 => xq 35 = .int .i64 0
   | 2 => xq 36 = .bool false
   | 3 => True
   | 4 => True
   | 5 => True
   | _ => True) [[34], [35], [36], [], [], []] [] (fun w' => Below w.heap.size w w' ∧ w'.heap[D]? = some (.deferred (some [])) ∧ Holds w' (w.heap.size + 1) 3 #[.int .i64 0] ∧ Holds w' (w.heap.size + 1 + 1) 3 #[.int .i64 0] ∧ Holds w' (w.heap.size + 1 + 1 + 1) 4 #[.bool false]) (by kernel_rfl)  ?_ ?_ (fun w' w'' hb g => ⟨g.1.trans (hb.mono g.1.size), (hb.block D (Array.getElem?_eq_some_iff.1 g.2.1).1).trans g.2.1, g.2.2.1.up hb, g.2.2.2.1.up hb, g.2.2.2.2.up hb⟩) (⟨HB2.out.trans (HB.out.mono HB2.out.size), HK.out, HR4R.out, HR5R.out, HR6R.out⟩) ?_ ?_ ?_
  ·intro jq xq xq' wqq h hv
   match jq, h, hv with
   | 0, h, hv => show xq' 34 = .int .i64 0; rw [← h 34 (by decide)]; exact hv
   | 1, h, hv => show xq' 35 = .int .i64 0; rw [← h 35 (by decide)]; exact hv
   | 2, h, hv => show xq' 36 = .bool false; rw [← h 36 (by decide)]; exact hv
   | 3, h, hv => exact hv
   | 4, h, hv => exact hv
   | 5, h, hv => exact hv
   | _ + 6, _, _ => trivial
  ·intro jq xq wqq w' hb' hv
   match jq, hv with
   | 0, hv => exact hv
   | 1, hv => exact hv
   | 2, hv => exact hv
   | 3, hv => exact hv
   | 4, hv => exact hv
   | 5, hv => exact hv
   | _ + 6, _ => trivial
  ·intro jq hj
   match jq, hj with
   | 0, hj => exact absurd hj (by decide)
   | 1, hj => exact absurd hj (by decide)
   | 2, hj => exact absurd hj (by decide)
   | 3, hj => exact absurd hj (by decide)
   | 4, hj => exact absurd hj (by decide)
   | 5, hj => exact absurd hj (by decide)
   | _ + 6, _ => trivial
  ·refine ⟨?_, ?_, ?_, ?_, ?_, ?_, trivial⟩
   ·intro xq w1 hb1 hx K hK0
    have hK := fun v w' hb => hK0 v w' (.inl hb)
    clear hx hKc hK0
    have q34 : w1.cell? ⟨w.heap.size + 1, 0, none⟩ = some (.int .i64 0) := hb1.2.2.1.cell 0
    have z34 : w1.frozen? ⟨w.heap.size + 1, 0, none⟩ = false := hb1.2.2.1.frozen 0
    have l34 := hb1.2.2.1.lt
    simp only [frameOf, fill, setSlot, sg, Nat.reduceBEq, if_true, if_false, Nat.reduceAdd, Nat.reduceEqDiff, HSL.out] at hK ⊢
    go_wp2_with (fail)
    exact hK _ _ (Below.refl _ _) rfl
   ·intro xq w1 hb1 hx K hK0
    have hK := fun v w' hb => hK0 v w' (.inl hb)
    clear hx hKc hK0
    have q35 : w1.cell? ⟨w.heap.size + 1 + 1, 0, none⟩ = some (.int .i64 0) := hb1.2.2.2.1.cell 0
    have z35 : w1.frozen? ⟨w.heap.size + 1 + 1, 0, none⟩ = false := hb1.2.2.2.1.frozen 0
    have l35 := hb1.2.2.2.1.lt
    simp only [frameOf, fill, setSlot, sg, Nat.reduceBEq, if_true, if_false, Nat.reduceAdd, Nat.reduceEqDiff, HSL.out] at hK ⊢
    go_wp2_with (fail)
    exact hK _ _ (Below.refl _ _) rfl
   ·intro xq w1 hb1 hx K hK0
    have hK := fun v w' hb => hK0 v w' (.inl hb)
    clear hx hKc hK0
    have q36 : w1.cell? ⟨w.heap.size + 1 + 1 + 1, 0, none⟩ = some (.bool false) := hb1.2.2.2.2.cell 0
    have z36 : w1.frozen? ⟨w.heap.size + 1 + 1 + 1, 0, none⟩ = false := hb1.2.2.2.2.frozen 0
    have l36 := hb1.2.2.2.2.lt
    simp only [frameOf, fill, setSlot, sg, Nat.reduceBEq, if_true, if_false, Nat.reduceAdd, Nat.reduceEqDiff, HSL.out] at hK ⊢
    go_wp2_with (fail)
    exact hK _ _ (Below.refl _ _) rfl
   ·intro xq w1 hb1 hx K hK0
    have hK := fun v w' hb => hK0 v w' (.inr hb)
    have e34 : xq 34 = .int .i64 0 := hx 0 (by rfl) (by rfl)
    clear hx hKc hK0
    have qs34 : w1.cell? ⟨w.heap.size + 1, 0, none⟩ = some (.int .i64 0) := hb1.2.2.1.cell 0
    have zs34 : w1.frozen? ⟨w.heap.size + 1, 0, none⟩ = false := hb1.2.2.1.frozen 0
    have ls34 := hb1.2.2.1.lt
    simp only [frameOf, fill, setSlot, sg, Nat.reduceBEq, if_true, if_false, Nat.reduceAdd, Nat.reduceEqDiff, HSL.out] at hK ⊢
    have E34 := Lib.hid e34
    simp only [e34] at hK ⊢
    clear e34
    go_wp2_with (fail)
    refine hK undef _ ⟨(by obtain ⟨h1_, h2_, h3_, h4_, h5_⟩ := hb1; exact ⟨h1_.setCell (by simp only; omega) _, (Below.heap_setCell _ _ _ _ (by simp only; omega)).trans h2_, by (repeat first | (with_reducible first | assumption | apply Holds.set4 | apply Holds.set2 | apply Holds.putL | ((refine Holds.new' _ _ ?_); (simp; done)) | refine Holds.alloc ?_ _ | refine Holds.drew ?_ | refine Holds.far ?_ (by simp only [ne_eq]; omega) _) | rfl), by (repeat first | (with_reducible first | assumption | apply Holds.set4 | apply Holds.set2 | apply Holds.putL | ((refine Holds.new' _ _ ?_); (simp; done)) | refine Holds.alloc ?_ _ | refine Holds.drew ?_ | refine Holds.far ?_ (by simp only [ne_eq]; omega) _) | rfl), by (repeat first | (with_reducible first | assumption | apply Holds.set4 | apply Holds.set2 | apply Holds.putL | ((refine Holds.new' _ _ ?_); (simp; done)) | refine Holds.alloc ?_ _ | refine Holds.drew ?_ | refine Holds.far ?_ (by simp only [ne_eq]; omega) _) | rfl)⟩), ?_⟩ trivial
    intro jq xq hd hne hv
    match jq, hd, hne, hv with
    | 0, _, _, hv => exact hv
    | 1, _, _, hv => exact hv
    | 2, _, _, hv => exact hv
    | 3, _, hne, _ => exact absurd rfl hne
    | 4, _, _, hv => exact hv
    | 5, _, _, hv => exact hv
    | _ + 6, _, _, _ => trivial
   ·intro xq w1 hb1 hx K hK0
    have hK := fun v w' hb => hK0 v w' (.inr hb)
    have e35 : xq 35 = .int .i64 0 := hx 1 (by rfl) (by rfl)
    clear hx hKc hK0
    have qs35 : w1.cell? ⟨w.heap.size + 1 + 1, 0, none⟩ = some (.int .i64 0) := hb1.2.2.2.1.cell 0
    have zs35 : w1.frozen? ⟨w.heap.size + 1 + 1, 0, none⟩ = false := hb1.2.2.2.1.frozen 0
    have ls35 := hb1.2.2.2.1.lt
    simp only [frameOf, fill, setSlot, sg, Nat.reduceBEq, if_true, if_false, Nat.reduceAdd, Nat.reduceEqDiff, HSL.out] at hK ⊢
    have E35 := Lib.hid e35
    simp only [e35] at hK ⊢
    clear e35
    go_wp2_with (fail)
    refine hK undef _ ⟨(by obtain ⟨h1_, h2_, h3_, h4_, h5_⟩ := hb1; exact ⟨h1_.setCell (by simp only; omega) _, (Below.heap_setCell _ _ _ _ (by simp only; omega)).trans h2_, by (repeat first | (with_reducible first | assumption | apply Holds.set4 | apply Holds.set2 | apply Holds.putL | ((refine Holds.new' _ _ ?_); (simp; done)) | refine Holds.alloc ?_ _ | refine Holds.drew ?_ | refine Holds.far ?_ (by simp only [ne_eq]; omega) _) | rfl), by (repeat first | (with_reducible first | assumption | apply Holds.set4 | apply Holds.set2 | apply Holds.putL | ((refine Holds.new' _ _ ?_); (simp; done)) | refine Holds.alloc ?_ _ | refine Holds.drew ?_ | refine Holds.far ?_ (by simp only [ne_eq]; omega) _) | rfl), by (repeat first | (with_reducible first | assumption | apply Holds.set4 | apply Holds.set2 | apply Holds.putL | ((refine Holds.new' _ _ ?_); (simp; done)) | refine Holds.alloc ?_ _ | refine Holds.drew ?_ | refine Holds.far ?_ (by simp only [ne_eq]; omega) _) | rfl)⟩), ?_⟩ trivial
    intro jq xq hd hne hv
    match jq, hd, hne, hv with
    | 0, _, _, hv => exact hv
    | 1, _, _, hv => exact hv
    | 2, _, _, hv => exact hv
    | 3, _, _, hv => exact hv
    | 4, _, hne, _ => exact absurd rfl hne
    | 5, _, _, hv => exact hv
    | _ + 6, _, _, _ => trivial
   ·intro xq w1 hb1 hx K hK0
    have hK := fun v w' hb => hK0 v w' (.inr hb)
    have e36 : xq 36 = .bool false := hx 2 (by rfl) (by rfl)
    clear hx hKc hK0
    have qs36 : w1.cell? ⟨w.heap.size + 1 + 1 + 1, 0, none⟩ = some (.bool false) := hb1.2.2.2.2.cell 0
    have zs36 : w1.frozen? ⟨w.heap.size + 1 + 1 + 1, 0, none⟩ = false := hb1.2.2.2.2.frozen 0
    have ls36 := hb1.2.2.2.2.lt
    simp only [frameOf, fill, setSlot, sg, Nat.reduceBEq, if_true, if_false, Nat.reduceAdd, Nat.reduceEqDiff, HSL.out] at hK ⊢
    have E36 := Lib.hid e36
    simp only [e36] at hK ⊢
    clear e36
    go_wp2_with (fail)
    refine hK undef _ ⟨(by obtain ⟨h1_, h2_, h3_, h4_, h5_⟩ := hb1; exact ⟨h1_.setCell (by simp only; omega) _, (Below.heap_setCell _ _ _ _ (by simp only; omega)).trans h2_, by (repeat first | (with_reducible first | assumption | apply Holds.set4 | apply Holds.set2 | apply Holds.putL | ((refine Holds.new' _ _ ?_); (simp; done)) | refine Holds.alloc ?_ _ | refine Holds.drew ?_ | refine Holds.far ?_ (by simp only [ne_eq]; omega) _) | rfl), by (repeat first | (with_reducible first | assumption | apply Holds.set4 | apply Holds.set2 | apply Holds.putL | ((refine Holds.new' _ _ ?_); (simp; done)) | refine Holds.alloc ?_ _ | refine Holds.drew ?_ | refine Holds.far ?_ (by simp only [ne_eq]; omega) _) | rfl), by (repeat first | (with_reducible first | assumption | apply Holds.set4 | apply Holds.set2 | apply Holds.putL | ((refine Holds.new' _ _ ?_); (simp; done)) | refine Holds.alloc ?_ _ | refine Holds.drew ?_ | refine Holds.far ?_ (by simp only [ne_eq]; omega) _) | rfl)⟩), ?_⟩ trivial
    intro jq xq hd hne hv
    match jq, hd, hne, hv with
    | 0, _, _, hv => exact hv
    | 1, _, _, hv => exact hv
    | 2, _, _, hv => exact hv
    | 3, _, _, hv => exact hv
    | 4, _, _, hv => exact hv
    | 5, _, hne, _ => exact absurd rfl hne
    | _ + 6, _, _, _ => trivial
  ·intro xq w1 hb1 hx
   have e34 : xq 34 = .int .i64 0 := hx 0 (by decide)
   have e35 : xq 35 = .int .i64 0 := hx 1 (by decide)
   have e36 : xq 36 = .bool false := hx 2 (by decide)
   clear hx
   simp only [frameOf, fill, setSlot, sg, Nat.reduceBEq, if_true, if_false, Nat.reduceAdd, Nat.reduceEqDiff, HSL.out]
   simp only [e34, e35, e36]
   clear e34 e35 e36
   refine hKc _ _ ?_
   go_wp2_with fail
   obtain ⟨g1, g2, g3, g4, g5⟩ := hb1
   exact leaves_one g2 (results_one3 rfl rfl rfl rfl (g3.shut g2 _) (g4.shut g2 _) (g5.shut g2 _) und_int0 rfl und_int0 rfl und_bool0 rfl) ⟨0, 0, false, rfl, ⟨fun _ => ⟨rfl, rfl, HCA.out⟩, fun h => (by cases h)⟩, below_shut g1 (Nat.le_refl _) (by omega) _⟩
 case stop =>
  rintro D c pre W hD hpre ⟨rfl, pr, y, k, x, s, ⟨rfl, h1, h2, h3, h4, h5⟩, hr4, hr5, hr6, hb⟩ hK
  refine wpIn_wide.2 ?_
  have HB := Lib.hid hb
  have HK := Lib.hid hK
  have HR4R := Lib.hid hr4
  have kr4 : W.cell? ⟨w.heap.size + 1, 0, none⟩ = some (.int .i64 (y.1 : Int)) := HR4R.out.cell 0
  have zr4 : W.frozen? ⟨w.heap.size + 1, 0, none⟩ = false := HR4R.out.frozen 0
  have lr4 := HR4R.out.lt
  have HR5R := Lib.hid hr5
  have kr5 : W.cell? ⟨w.heap.size + 1 + 1, 0, none⟩ = some (.int .i64 (k : Int)) := HR5R.out.cell 0
  have zr5 : W.frozen? ⟨w.heap.size + 1 + 1, 0, none⟩ = false := HR5R.out.frozen 0
  have lr5 := HR5R.out.lt
  have HR6R := Lib.hid hr6
  have kr6 : W.cell? ⟨w.heap.size + 1 + 1 + 1, 0, none⟩ = some (.bool true) := HR6R.out.cell 0
  have zr6 : W.frozen? ⟨w.heap.size + 1 + 1 + 1, 0, none⟩ = false := HR6R.out.frozen 0
  have lr6 := HR6R.out.lt
  clear hb hK hr4 hr5 hr6
  go_wp2_with fail
  rename_i Kc hKc
  have HSL := Lib.hid (show slotsOf [some 34, some 35, some 36, none, none, none] = [34, 35, 36] from rfl)
  refine wp_region_partsG (by kernel_rfl) [some 34, some 35, some 36, none, none, none] (fun jq xq w' => match jq with
   | 0 => xq 34 = .int .i64 (y.1 : Int)
   | 1 => xq 35 = .int .i64 (k : Int)
   | 2 => xq 36 = .bool true
   | 3 => True
   | 4 => True
   | 5 => True
   | _ => True) [[34], [35], [36], [], [], []] [] (fun w' => Below w.heap.size w w' ∧ w'.heap[D]? = some (.deferred (some [])) ∧ Holds w' (w.heap.size + 1) 3 #[.int .i64 (y.1 : Int)] ∧ Holds w' (w.heap.size + 1 + 1) 3 #[.int .i64 (k : Int)] ∧ Holds w' (w.heap.size + 1 + 1 + 1) 4 #[.bool true]) (by kernel_rfl)  ?_ ?_ (fun w' w'' hb g => ⟨g.1.trans (hb.mono g.1.size), (hb.block D (Array.getElem?_eq_some_iff.1 g.2.1).1).trans g.2.1, g.2.2.1.up hb, g.2.2.2.1.up hb, g.2.2.2.2.up hb⟩) (⟨HB.out, HK.out, HR4R.out, HR5R.out, HR6R.out⟩) ?_ ?_ ?_
  ·intro jq xq xq' wqq h hv
   match jq, h, hv with
   | 0, h, hv => show xq' 34 = .int .i64 (y.1 : Int); rw [← h 34 (by decide)]; exact hv
   | 1, h, hv => show xq' 35 = .int .i64 (k : Int); rw [← h 35 (by decide)]; exact hv
   | 2, h, hv => show xq' 36 = .bool true; rw [← h 36 (by decide)]; exact hv
   | 3, h, hv => exact hv
   | 4, h, hv => exact hv
   | 5, h, hv => exact hv
   | _ + 6, _, _ => trivial
  ·intro jq xq wqq w' hb' hv
   match jq, hv with
   | 0, hv => exact hv
   | 1, hv => exact hv
   | 2, hv => exact hv
   | 3, hv => exact hv
   | 4, hv => exact hv
   | 5, hv => exact hv
   | _ + 6, _ => trivial
  ·intro jq hj
   match jq, hj with
   | 0, hj => exact absurd hj (by decide)
   | 1, hj => exact absurd hj (by decide)
   | 2, hj => exact absurd hj (by decide)
   | 3, hj => exact absurd hj (by decide)
   | 4, hj => exact absurd hj (by decide)
   | 5, hj => exact absurd hj (by decide)
   | _ + 6, _ => trivial
  ·refine ⟨?_, ?_, ?_, ?_, ?_, ?_, trivial⟩
   ·intro xq w1 hb1 hx K hK0
    have hK := fun v w' hb => hK0 v w' (.inl hb)
    clear hx hKc hK0
    have q34 : w1.cell? ⟨w.heap.size + 1, 0, none⟩ = some (.int .i64 (y.1 : Int)) := hb1.2.2.1.cell 0
    have z34 : w1.frozen? ⟨w.heap.size + 1, 0, none⟩ = false := hb1.2.2.1.frozen 0
    have l34 := hb1.2.2.1.lt
    simp only [frameOf, fill, setSlot, sg, Nat.reduceBEq, if_true, if_false, Nat.reduceAdd, Nat.reduceEqDiff, HSL.out] at hK ⊢
    go_wp2_with (fail)
    exact hK _ _ (Below.refl _ _) rfl
   ·intro xq w1 hb1 hx K hK0
    have hK := fun v w' hb => hK0 v w' (.inl hb)
    clear hx hKc hK0
    have q35 : w1.cell? ⟨w.heap.size + 1 + 1, 0, none⟩ = some (.int .i64 (k : Int)) := hb1.2.2.2.1.cell 0
    have z35 : w1.frozen? ⟨w.heap.size + 1 + 1, 0, none⟩ = false := hb1.2.2.2.1.frozen 0
    have l35 := hb1.2.2.2.1.lt
    simp only [frameOf, fill, setSlot, sg, Nat.reduceBEq, if_true, if_false, Nat.reduceAdd, Nat.reduceEqDiff, HSL.out] at hK ⊢
    go_wp2_with (fail)
    exact hK _ _ (Below.refl _ _) rfl
   ·intro xq w1 hb1 hx K hK0
    have hK := fun v w' hb => hK0 v w' (.inl hb)
    clear hx hKc hK0
    have q36 : w1.cell? ⟨w.heap.size + 1 + 1 + 1, 0, none⟩ = some (.bool true) := hb1.2.2.2.2.cell 0
    have z36 : w1.frozen? ⟨w.heap.size + 1 + 1 + 1, 0, none⟩ = false := hb1.2.2.2.2.frozen 0
    have l36 := hb1.2.2.2.2.lt
    simp only [frameOf, fill, setSlot, sg, Nat.reduceBEq, if_true, if_false, Nat.reduceAdd, Nat.reduceEqDiff, HSL.out] at hK ⊢
    go_wp2_with (fail)
    exact hK _ _ (Below.refl _ _) rfl
   ·intro xq w1 hb1 hx K hK0
    have hK := fun v w' hb => hK0 v w' (.inr hb)
    have e34 : xq 34 = .int .i64 (y.1 : Int) := hx 0 (by rfl) (by rfl)
    clear hx hKc hK0
    have qs34 : w1.cell? ⟨w.heap.size + 1, 0, none⟩ = some (.int .i64 (y.1 : Int)) := hb1.2.2.1.cell 0
    have zs34 : w1.frozen? ⟨w.heap.size + 1, 0, none⟩ = false := hb1.2.2.1.frozen 0
    have ls34 := hb1.2.2.1.lt
    simp only [frameOf, fill, setSlot, sg, Nat.reduceBEq, if_true, if_false, Nat.reduceAdd, Nat.reduceEqDiff, HSL.out] at hK ⊢
    have E34 := Lib.hid e34
    simp only [e34] at hK ⊢
    clear e34
    go_wp2_with (fail)
    refine hK undef _ ⟨(by obtain ⟨h1_, h2_, h3_, h4_, h5_⟩ := hb1; exact ⟨h1_.setCell (by simp only; omega) _, (Below.heap_setCell _ _ _ _ (by simp only; omega)).trans h2_, by (repeat first | (with_reducible first | assumption | apply Holds.set4 | apply Holds.set2 | apply Holds.putL | ((refine Holds.new' _ _ ?_); (simp; done)) | refine Holds.alloc ?_ _ | refine Holds.drew ?_ | refine Holds.far ?_ (by simp only [ne_eq]; omega) _) | rfl), by (repeat first | (with_reducible first | assumption | apply Holds.set4 | apply Holds.set2 | apply Holds.putL | ((refine Holds.new' _ _ ?_); (simp; done)) | refine Holds.alloc ?_ _ | refine Holds.drew ?_ | refine Holds.far ?_ (by simp only [ne_eq]; omega) _) | rfl), by (repeat first | (with_reducible first | assumption | apply Holds.set4 | apply Holds.set2 | apply Holds.putL | ((refine Holds.new' _ _ ?_); (simp; done)) | refine Holds.alloc ?_ _ | refine Holds.drew ?_ | refine Holds.far ?_ (by simp only [ne_eq]; omega) _) | rfl)⟩), ?_⟩ trivial
    intro jq xq hd hne hv
    match jq, hd, hne, hv with
    | 0, _, _, hv => exact hv
    | 1, _, _, hv => exact hv
    | 2, _, _, hv => exact hv
    | 3, _, hne, _ => exact absurd rfl hne
    | 4, _, _, hv => exact hv
    | 5, _, _, hv => exact hv
    | _ + 6, _, _, _ => trivial
   ·intro xq w1 hb1 hx K hK0
    have hK := fun v w' hb => hK0 v w' (.inr hb)
    have e35 : xq 35 = .int .i64 (k : Int) := hx 1 (by rfl) (by rfl)
    clear hx hKc hK0
    have qs35 : w1.cell? ⟨w.heap.size + 1 + 1, 0, none⟩ = some (.int .i64 (k : Int)) := hb1.2.2.2.1.cell 0
    have zs35 : w1.frozen? ⟨w.heap.size + 1 + 1, 0, none⟩ = false := hb1.2.2.2.1.frozen 0
    have ls35 := hb1.2.2.2.1.lt
    simp only [frameOf, fill, setSlot, sg, Nat.reduceBEq, if_true, if_false, Nat.reduceAdd, Nat.reduceEqDiff, HSL.out] at hK ⊢
    have E35 := Lib.hid e35
    simp only [e35] at hK ⊢
    clear e35
    go_wp2_with (fail)
    refine hK undef _ ⟨(by obtain ⟨h1_, h2_, h3_, h4_, h5_⟩ := hb1; exact ⟨h1_.setCell (by simp only; omega) _, (Below.heap_setCell _ _ _ _ (by simp only; omega)).trans h2_, by (repeat first | (with_reducible first | assumption | apply Holds.set4 | apply Holds.set2 | apply Holds.putL | ((refine Holds.new' _ _ ?_); (simp; done)) | refine Holds.alloc ?_ _ | refine Holds.drew ?_ | refine Holds.far ?_ (by simp only [ne_eq]; omega) _) | rfl), by (repeat first | (with_reducible first | assumption | apply Holds.set4 | apply Holds.set2 | apply Holds.putL | ((refine Holds.new' _ _ ?_); (simp; done)) | refine Holds.alloc ?_ _ | refine Holds.drew ?_ | refine Holds.far ?_ (by simp only [ne_eq]; omega) _) | rfl), by (repeat first | (with_reducible first | assumption | apply Holds.set4 | apply Holds.set2 | apply Holds.putL | ((refine Holds.new' _ _ ?_); (simp; done)) | refine Holds.alloc ?_ _ | refine Holds.drew ?_ | refine Holds.far ?_ (by simp only [ne_eq]; omega) _) | rfl)⟩), ?_⟩ trivial
    intro jq xq hd hne hv
    match jq, hd, hne, hv with
    | 0, _, _, hv => exact hv
    | 1, _, _, hv => exact hv
    | 2, _, _, hv => exact hv
    | 3, _, _, hv => exact hv
    | 4, _, hne, _ => exact absurd rfl hne
    | 5, _, _, hv => exact hv
    | _ + 6, _, _, _ => trivial
   ·intro xq w1 hb1 hx K hK0
    have hK := fun v w' hb => hK0 v w' (.inr hb)
    have e36 : xq 36 = .bool true := hx 2 (by rfl) (by rfl)
    clear hx hKc hK0
    have qs36 : w1.cell? ⟨w.heap.size + 1 + 1 + 1, 0, none⟩ = some (.bool true) := hb1.2.2.2.2.cell 0
    have zs36 : w1.frozen? ⟨w.heap.size + 1 + 1 + 1, 0, none⟩ = false := hb1.2.2.2.2.frozen 0
    have ls36 := hb1.2.2.2.2.lt
    simp only [frameOf, fill, setSlot, sg, Nat.reduceBEq, if_true, if_false, Nat.reduceAdd, Nat.reduceEqDiff, HSL.out] at hK ⊢
    have E36 := Lib.hid e36
    simp only [e36] at hK ⊢
    clear e36
    go_wp2_with (fail)
    refine hK undef _ ⟨(by obtain ⟨h1_, h2_, h3_, h4_, h5_⟩ := hb1; exact ⟨h1_.setCell (by simp only; omega) _, (Below.heap_setCell _ _ _ _ (by simp only; omega)).trans h2_, by (repeat first | (with_reducible first | assumption | apply Holds.set4 | apply Holds.set2 | apply Holds.putL | ((refine Holds.new' _ _ ?_); (simp; done)) | refine Holds.alloc ?_ _ | refine Holds.drew ?_ | refine Holds.far ?_ (by simp only [ne_eq]; omega) _) | rfl), by (repeat first | (with_reducible first | assumption | apply Holds.set4 | apply Holds.set2 | apply Holds.putL | ((refine Holds.new' _ _ ?_); (simp; done)) | refine Holds.alloc ?_ _ | refine Holds.drew ?_ | refine Holds.far ?_ (by simp only [ne_eq]; omega) _) | rfl), by (repeat first | (with_reducible first | assumption | apply Holds.set4 | apply Holds.set2 | apply Holds.putL | ((refine Holds.new' _ _ ?_); (simp; done)) | refine Holds.alloc ?_ _ | refine Holds.drew ?_ | refine Holds.far ?_ (by simp only [ne_eq]; omega) _) | rfl)⟩), ?_⟩ trivial
    intro jq xq hd hne hv
    match jq, hd, hne, hv with
    | 0, _, _, hv => exact hv
    | 1, _, _, hv => exact hv
    | 2, _, _, hv => exact hv
    | 3, _, _, hv => exact hv
    | 4, _, _, hv => exact hv
    | 5, _, hne, _ => exact absurd rfl hne
    | _ + 6, _, _, _ => trivial
  ·intro xq w1 hb1 hx
   have e34 : xq 34 = .int .i64 (y.1 : Int) := hx 0 (by decide)
   have e35 : xq 35 = .int .i64 (k : Int) := hx 1 (by decide)
   have e36 : xq 36 = .bool true := hx 2 (by decide)
   clear hx
   simp only [frameOf, fill, setSlot, sg, Nat.reduceBEq, if_true, if_false, Nat.reduceAdd, Nat.reduceEqDiff, HSL.out]
   simp only [e34, e35, e36]
   clear e34 e35 e36
   refine hKc _ _ ?_
   go_wp2_with fail
   obtain ⟨g1, g2, g3, g4, g5⟩ := hb1
   exact leaves_one g2 (results_one3 rfl rfl rfl rfl (g3.shut g2 _) (g4.shut g2 _) (g5.shut g2 _) und_int0 rfl und_int0 rfl und_bool0 rfl) ⟨y.1, k, true, rfl, ⟨fun h => (by cases h), fun _ => ⟨pr, y, x, s, hpre, h1, h2, rfl, h3, h4, h5⟩⟩, below_shut g1 (Nat.le_refl _) (by omega) _⟩
theorem burns_is (b : Br) (A : Option Addr) (c : Nat) (bs : List Bn) (hE : barnErr b bs = 0) (P : Option Addr) (q : Nat) (p : List (List Int)) (hpl : p.length ≤ 20000) (hll : ∀ l ∈ p, l.length ≤ 1000) (hin : ∀ l ∈ p, ∀ z ∈ l, within z 0 ((bs.length : Int) - 1) = true) (day bin : Nat) (any : Bool) (hF : First (burnF b bs p) day bin any) (w : World) (hA : BinsAt w A bs) (hP : PlanAt w P p) :
  Calls Try.prog 72 #[.agg #[.int .i64 b.cool, .int .i64 b.gangs, .int .i64 b.r0, .int .i64 b.r1, .int .i64 b.r2, .int .i64 b.r3, .int .i64 b.r4, .int .i64 b.r5, .slice A bs.length c], .slice P p.length q] w fun e w' => e = .returned (.tuple #[.int .i64 (day : Int), .int .i64 (bin : Int), .bool any]) ∧ Below w.heap.size w w' :=
 (burns_any b A c bs hE P q p hpl hll hin w hA hP).mono fun e w' h => by
  obtain ⟨day', bin', any', rfl, hb, hw⟩ := h
  obtain ⟨rfl, rfl, rfl⟩ := hF.same (burn_first hE hb)
  exact ⟨rfl, hw⟩
end Go.Proofs.Ytokafjkinkafiaa
