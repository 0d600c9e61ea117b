
import Derived.Test.YtifffonoipapgaaVAA
import Derived.Test.YtifffonoipapgaaVAC
import Derived.Test.YtifffonoipapgaaVAE
import Derived.Test.YtifffonoipapgaaVAL
import Derived.Test.YtifffonoipapgaaVAT
set_option linter.unusedSimpArgs false
set_option linter.unusedVariables false
namespace Go.Proofs.Ytifffonoipapgaa
open Go.RowKit
attribute [local go_sem] ix4_0 ix4_1 ix4_2 ix4_3 ix8_0 ix8_1 ix8_2 ix8_3
set_option maxRecDepth 100000 in
set_option maxHeartbeats 2000000 in
theorem mixture_any (b : Bx) (o : b.ok) (w : World) :
  Calls Try.prog 108 #[.agg #[.int .i64 b.l0, .int .i64 b.h0, .int .i64 b.l1, .int .i64 b.h1, .int .i64 b.l2, .int .i64 b.h2, .int .i64 b.l3, .int .i64 b.h3]] w fun e w' => e = .returned (.agg #[.int .i64 (b.l0 + b.t0), .int .i64 (b.l1 + b.t1), .int .i64 (b.l2 + b.t2), .int .i64 (b.l3 + b.t3)]) ∧ Below w.heap.size w w' := by
 obtain ⟨p0, q0, p1, q1, p2, q2, p3, q3⟩ := o.small
 obtain ⟨v00, v01, v02, v03, _⟩ := o.s0.bd
 obtain ⟨v10, v11, v12, v13, _⟩ := o.s1.bd
 obtain ⟨v20, v21, v22, v23, _⟩ := o.s2.bd
 obtain ⟨v30, v31, v32, v33, _⟩ := o.s3.bd
 go_enter Try.func108, Try.ntmps108
 go_wp2_with fail
 refine wp_loop_rounds 5 ?_
 repeat (rw [rounds_succ]; go_wp2_with fail)
 go_wp2_with (go_at_call 133; refine (sum_any _ _ _ _ _ (by omega) (by omega) (by omega) (by omega) (by omega) (by omega) (by omega) (by omega)).mono ?_; rintro e w2 ⟨rfl, hb2⟩; have Hb2 : Holds w2 (w.heap.size) 153 #[.int .i64 b.l0, .int .i64 b.h0, .int .i64 b.l1, .int .i64 b.h1, .int .i64 b.l2, .int .i64 b.h2, .int .i64 b.l3, .int .i64 b.h3] := Holds.up zp0 hb2; have Hr2 : Holds w2 (w.heap.size + 1) 28 #[.int .i64 0, .int .i64 0, .int .i64 0, .int .i64 0] := Holds.up zp0 hb2; have Hm2 : Holds w2 (w.heap.size + 1 + 1) 28 #[.int .i64 b.l0, .int .i64 b.l1, .int .i64 b.l2, .int .i64 b.l3] := Holds.up zp0 hb2; have hB2 : Below w.heap.size w w2 := Below.trans zg (hb2.mono (by first | omega | (simp; done) | (simp; omega))); have hs2 := hb2.size; simp only [World.size_alloc, World.size_setCell] at hs2; clear hb2; have cb0 : w2.cell? ⟨w.heap.size, 0, none⟩ = some (.int .i64 b.l0) := Hb2.cell 0; have cb1 : w2.cell? ⟨w.heap.size, 1, none⟩ = some (.int .i64 b.h0) := Hb2.cell 1; have cb2 : w2.cell? ⟨w.heap.size, 2, none⟩ = some (.int .i64 b.l1) := Hb2.cell 2; have cb3 : w2.cell? ⟨w.heap.size, 3, none⟩ = some (.int .i64 b.h1) := Hb2.cell 3; have cb4 : w2.cell? ⟨w.heap.size, 4, none⟩ = some (.int .i64 b.l2) := Hb2.cell 4; have cb5 : w2.cell? ⟨w.heap.size, 5, none⟩ = some (.int .i64 b.h2) := Hb2.cell 5; have cb6 : w2.cell? ⟨w.heap.size, 6, none⟩ = some (.int .i64 b.l3) := Hb2.cell 6; have cb7 : w2.cell? ⟨w.heap.size, 7, none⟩ = some (.int .i64 b.h3) := Hb2.cell 7)
 go_loopw [6, 24] (fun v6 v24 wr => Below w.heap.size w wr ∧ w.heap.size + 3 ≤ wr.heap.size ∧ Holds wr (w.heap.size + 1) 28 #[.int .i64 0, .int .i64 0, .int .i64 0, .int .i64 0] ∧ ((v24 = .int .i64 0 ∧ v6 = .int .i64 b.r0 ∧ Holds wr (w.heap.size + 1 + 1) 28 #[.int .i64 b.l0, .int .i64 b.l1, .int .i64 b.l2, .int .i64 b.l3]) ∨ (v24 = .int .i64 1 ∧ v6 = .int .i64 b.r1 ∧ Holds wr (w.heap.size + 1 + 1) 28 #[.int .i64 (b.l0 + b.t0), .int .i64 b.l1, .int .i64 b.l2, .int .i64 b.l3]) ∨ (v24 = .int .i64 2 ∧ v6 = .int .i64 b.r2 ∧ Holds wr (w.heap.size + 1 + 1) 28 #[.int .i64 (b.l0 + b.t0), .int .i64 (b.l1 + b.t1), .int .i64 b.l2, .int .i64 b.l3]) ∨ (v24 = .int .i64 3 ∧ v6 = .int .i64 b.r3 ∧ Holds wr (w.heap.size + 1 + 1) 28 #[.int .i64 (b.l0 + b.t0), .int .i64 (b.l1 + b.t1), .int .i64 (b.l2 + b.t2), .int .i64 b.l3]) ∨ (v24 = .int .i64 4 ∧ v6 = .int .i64 b.r4 ∧ Holds wr (w.heap.size + 1 + 1) 28 #[.int .i64 (b.l0 + b.t0), .int .i64 (b.l1 + b.t1), .int .i64 (b.l2 + b.t2), .int .i64 (b.l3 + b.t3)]))) (fun _ v24 _ => 4 - (intOf v24).toNat)
 case atStart => exact ⟨zg, by first | omega | (simp; omega), zp0, .inl ⟨rfl, rfl, zp0⟩⟩
 case round =>
  obtain ⟨hB, hS, Hr, ⟨rfl, rfl, Hm⟩ | ⟨rfl, rfl, Hm⟩ | ⟨rfl, rfl, Hm⟩ | ⟨rfl, rfl, Hm⟩ | ⟨rfl, rfl, Hm⟩⟩ := hrel
  ·by_cases hlt : b.h0 - b.l0 < b.r0
   ·have ht : b.t0 = b.h0 - b.l0 := by unfold Bx.t0 mn; simp only [hlt, if_true, if_false]
    have HT := Lib.hid ht
    clear ht
    have hlm : w.heap.size + 1 + 1 < wr.heap.size := by omega
    have cm : wr.cell? ⟨w.heap.size + 1 + 1, 0, none⟩ = some (.int .i64 b.l0) := Hm.cell 0
    have zm : wr.frozen? ⟨w.heap.size + 1 + 1, 0, none⟩ = false := Hm.frozen 0
    go_wp2_with fail
    go_roundw
    have ht := HT.out
    case rel => exact ⟨zg, by first | omega | (simp; omega), zp0, .inr (.inl ⟨rfl, by rw [show b.r1 = b.r0 - b.t0 from rfl, ht], by rw [ht]; exact zp0⟩)⟩
    case measure => simp [intOf]
   ·have ht : b.t0 = b.r0 := by unfold Bx.t0 mn; simp only [hlt, if_true, if_false]
    have HT := Lib.hid ht
    clear ht
    have hlm : w.heap.size + 1 + 1 < wr.heap.size := by omega
    have cm : wr.cell? ⟨w.heap.size + 1 + 1, 0, none⟩ = some (.int .i64 b.l0) := Hm.cell 0
    have zm : wr.frozen? ⟨w.heap.size + 1 + 1, 0, none⟩ = false := Hm.frozen 0
    go_wp2_with fail
    go_roundw
    have ht := HT.out
    case rel => exact ⟨zg, by first | omega | (simp; omega), zp0, .inr (.inl ⟨rfl, by rw [show b.r1 = b.r0 - b.t0 from rfl, ht, Int.sub_self], by rw [ht]; exact zp0⟩)⟩
    case measure => simp [intOf]
  ·by_cases hlt : b.h1 - b.l1 < b.r1
   ·have ht : b.t1 = b.h1 - b.l1 := by unfold Bx.t1 mn; simp only [hlt, if_true, if_false]
    have HT := Lib.hid ht
    clear ht
    have hlm : w.heap.size + 1 + 1 < wr.heap.size := by omega
    have cm : wr.cell? ⟨w.heap.size + 1 + 1, 1, none⟩ = some (.int .i64 b.l1) := Hm.cell 1
    have zm : wr.frozen? ⟨w.heap.size + 1 + 1, 1, none⟩ = false := Hm.frozen 1
    go_wp2_with fail
    go_roundw
    have ht := HT.out
    case rel => exact ⟨zg, by first | omega | (simp; omega), zp0, .inr (.inr (.inl ⟨rfl, by rw [show b.r2 = b.r1 - b.t1 from rfl, ht], by rw [ht]; exact zp0⟩))⟩
    case measure => simp [intOf]
   ·have ht : b.t1 = b.r1 := by unfold Bx.t1 mn; simp only [hlt, if_true, if_false]
    have HT := Lib.hid ht
    clear ht
    have hlm : w.heap.size + 1 + 1 < wr.heap.size := by omega
    have cm : wr.cell? ⟨w.heap.size + 1 + 1, 1, none⟩ = some (.int .i64 b.l1) := Hm.cell 1
    have zm : wr.frozen? ⟨w.heap.size + 1 + 1, 1, none⟩ = false := Hm.frozen 1
    go_wp2_with fail
    go_roundw
    have ht := HT.out
    case rel => exact ⟨zg, by first | omega | (simp; omega), zp0, .inr (.inr (.inl ⟨rfl, by rw [show b.r2 = b.r1 - b.t1 from rfl, ht, Int.sub_self], by rw [ht]; exact zp0⟩))⟩
    case measure => simp [intOf]
  ·by_cases hlt : b.h2 - b.l2 < b.r2
   ·have ht : b.t2 = b.h2 - b.l2 := by unfold Bx.t2 mn; simp only [hlt, if_true, if_false]
    have HT := Lib.hid ht
    clear ht
    have hlm : w.heap.size + 1 + 1 < wr.heap.size := by omega
    have cm : wr.cell? ⟨w.heap.size + 1 + 1, 2, none⟩ = some (.int .i64 b.l2) := Hm.cell 2
    have zm : wr.frozen? ⟨w.heap.size + 1 + 1, 2, none⟩ = false := Hm.frozen 2
    go_wp2_with fail
    go_roundw
    have ht := HT.out
    case rel => exact ⟨zg, by first | omega | (simp; omega), zp0, .inr (.inr (.inr (.inl ⟨rfl, by rw [show b.r3 = b.r2 - b.t2 from rfl, ht], by rw [ht]; exact zp0⟩)))⟩
    case measure => simp [intOf]
   ·have ht : b.t2 = b.r2 := by unfold Bx.t2 mn; simp only [hlt, if_true, if_false]
    have HT := Lib.hid ht
    clear ht
    have hlm : w.heap.size + 1 + 1 < wr.heap.size := by omega
    have cm : wr.cell? ⟨w.heap.size + 1 + 1, 2, none⟩ = some (.int .i64 b.l2) := Hm.cell 2
    have zm : wr.frozen? ⟨w.heap.size + 1 + 1, 2, none⟩ = false := Hm.frozen 2
    go_wp2_with fail
    go_roundw
    have ht := HT.out
    case rel => exact ⟨zg, by first | omega | (simp; omega), zp0, .inr (.inr (.inr (.inl ⟨rfl, by rw [show b.r3 = b.r2 - b.t2 from rfl, ht, Int.sub_self], by rw [ht]; exact zp0⟩)))⟩
    case measure => simp [intOf]
  ·by_cases hlt : b.h3 - b.l3 < b.r3
   ·have ht : b.t3 = b.h3 - b.l3 := by unfold Bx.t3 mn; simp only [hlt, if_true, if_false]
    have HT := Lib.hid ht
    clear ht
    have hlm : w.heap.size + 1 + 1 < wr.heap.size := by omega
    have cm : wr.cell? ⟨w.heap.size + 1 + 1, 3, none⟩ = some (.int .i64 b.l3) := Hm.cell 3
    have zm : wr.frozen? ⟨w.heap.size + 1 + 1, 3, none⟩ = false := Hm.frozen 3
    go_wp2_with fail
    go_roundw
    have ht := HT.out
    case rel => exact ⟨zg, by first | omega | (simp; omega), zp0, .inr (.inr (.inr (.inr (⟨rfl, by rw [show b.r4 = b.r3 - b.t3 from rfl, ht], by rw [ht]; exact zp0⟩))))⟩
    case measure => simp [intOf]
   ·have ht : b.t3 = b.r3 := by unfold Bx.t3 mn; simp only [hlt, if_true, if_false]
    have HT := Lib.hid ht
    clear ht
    have hlm : w.heap.size + 1 + 1 < wr.heap.size := by omega
    have cm : wr.cell? ⟨w.heap.size + 1 + 1, 3, none⟩ = some (.int .i64 b.l3) := Hm.cell 3
    have zm : wr.frozen? ⟨w.heap.size + 1 + 1, 3, none⟩ = false := Hm.frozen 3
    go_wp2_with fail
    go_roundw
    have ht := HT.out
    case rel => exact ⟨zg, by first | omega | (simp; omega), zp0, .inr (.inr (.inr (.inr (⟨rfl, by rw [show b.r4 = b.r3 - b.t3 from rfl, ht, Int.sub_self], by rw [ht]; exact zp0⟩))))⟩
    case measure => simp [intOf]
  ·have cm0 : wr.cell? ⟨w.heap.size + 1 + 1, 0, none⟩ = some (.int .i64 (b.l0 + b.t0)) := Hm.cell 0
   have cm1 : wr.cell? ⟨w.heap.size + 1 + 1, 1, none⟩ = some (.int .i64 (b.l1 + b.t1)) := Hm.cell 1
   have cm2 : wr.cell? ⟨w.heap.size + 1 + 1, 2, none⟩ = some (.int .i64 (b.l2 + b.t2)) := Hm.cell 2
   have cm3 : wr.cell? ⟨w.heap.size + 1 + 1, 3, none⟩ = some (.int .i64 (b.l3 + b.t3)) := Hm.cell 3
   obtain ⟨cr0, cr1, cr2, cr3⟩ := Hr.c4
   obtain ⟨zr0, zr1, zr2, zr3⟩ := Hr.f4
   go_wp2_with fail
   exact ret_cell (t := 28) rfl rfl (Hr.set4 _ _ _ _) Try.underlying28 rfl (by kernel_rfl) rfl ⟨rfl, zg⟩
end Go.Proofs.Ytifffonoipapgaa
