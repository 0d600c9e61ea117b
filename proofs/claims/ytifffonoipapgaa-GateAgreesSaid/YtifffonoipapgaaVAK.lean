
import Derived.Test.YtifffonoipapgaaVAA
import Derived.Test.YtifffonoipapgaaVAC
import Derived.Test.YtifffonoipapgaaVAE
import Derived.Test.YtifffonoipapgaaVAG
set_option linter.unusedSimpArgs false
set_option linter.unusedVariables false
namespace Go.Proofs.Ytifffonoipapgaa
open Go.RowKit
attribute [local go_sem] ix4_0 ix4_1 ix4_2 ix4_3 ix8_0 ix8_1 ix8_2 ix8_3 eqlW_span eqlW_box
theorem lets_0 (full empty err miss spot g0 g1 g2 g3 : Int) (hs gs cf : Value) (w : World) (m0 : 0 ≤ miss) (m1 : miss ≤ 20)
  (a0 : 0 ≤ g0) (b0 : g0 ≤ 200) (a1 : 0 ≤ g1) (b1 : g1 ≤ 200) (a2 : 0 ≤ g2) (b2 : g2 ≤ 200) (a3 : 0 ≤ g3) (b3 : g3 ≤ 200) (n0 : 10 ≤ g0 + g1 + g2 + g3) (n1 : g0 + g1 + g2 + g3 ≤ 200) :
  Calls Try.prog 101 #[.agg #[.int .i64 full, .int .i64 empty, hs, .int .i64 err, .int .i64 miss, gs, cf], .agg #[.int .i64 spot, .int .i64 g0, .int .i64 g1, .int .i64 g2, .int .i64 g3], .int .i64 0] w fun e w' => e = .returned (.agg #[.int .i64 (letLo miss (g0 + g1 + g2 + g3) g0), .int .i64 (letHi miss (g0 + g1 + g2 + g3) g0)]) ∧ Below w.heap.size w w' :=
 lets_any full empty err miss spot g0 g1 g2 g3 g0 hs gs cf 0 w m0 m1 a0 b0 a1 b1 a2 b2 a3 b3 n0 n1 (by omega) rfl
theorem lets_1 (full empty err miss spot g0 g1 g2 g3 : Int) (hs gs cf : Value) (w : World) (m0 : 0 ≤ miss) (m1 : miss ≤ 20)
  (a0 : 0 ≤ g0) (b0 : g0 ≤ 200) (a1 : 0 ≤ g1) (b1 : g1 ≤ 200) (a2 : 0 ≤ g2) (b2 : g2 ≤ 200) (a3 : 0 ≤ g3) (b3 : g3 ≤ 200) (n0 : 10 ≤ g0 + g1 + g2 + g3) (n1 : g0 + g1 + g2 + g3 ≤ 200) :
  Calls Try.prog 101 #[.agg #[.int .i64 full, .int .i64 empty, hs, .int .i64 err, .int .i64 miss, gs, cf], .agg #[.int .i64 spot, .int .i64 g0, .int .i64 g1, .int .i64 g2, .int .i64 g3], .int .i64 1] w fun e w' => e = .returned (.agg #[.int .i64 (letLo miss (g0 + g1 + g2 + g3) g1), .int .i64 (letHi miss (g0 + g1 + g2 + g3) g1)]) ∧ Below w.heap.size w w' :=
 lets_any full empty err miss spot g0 g1 g2 g3 g1 hs gs cf 1 w m0 m1 a0 b0 a1 b1 a2 b2 a3 b3 n0 n1 (by omega) rfl
theorem lets_2 (full empty err miss spot g0 g1 g2 g3 : Int) (hs gs cf : Value) (w : World) (m0 : 0 ≤ miss) (m1 : miss ≤ 20)
  (a0 : 0 ≤ g0) (b0 : g0 ≤ 200) (a1 : 0 ≤ g1) (b1 : g1 ≤ 200) (a2 : 0 ≤ g2) (b2 : g2 ≤ 200) (a3 : 0 ≤ g3) (b3 : g3 ≤ 200) (n0 : 10 ≤ g0 + g1 + g2 + g3) (n1 : g0 + g1 + g2 + g3 ≤ 200) :
  Calls Try.prog 101 #[.agg #[.int .i64 full, .int .i64 empty, hs, .int .i64 err, .int .i64 miss, gs, cf], .agg #[.int .i64 spot, .int .i64 g0, .int .i64 g1, .int .i64 g2, .int .i64 g3], .int .i64 2] w fun e w' => e = .returned (.agg #[.int .i64 (letLo miss (g0 + g1 + g2 + g3) g2), .int .i64 (letHi miss (g0 + g1 + g2 + g3) g2)]) ∧ Below w.heap.size w w' :=
 lets_any full empty err miss spot g0 g1 g2 g3 g2 hs gs cf 2 w m0 m1 a0 b0 a1 b1 a2 b2 a3 b3 n0 n1 (by omega) rfl
theorem lets_3 (full empty err miss spot g0 g1 g2 g3 : Int) (hs gs cf : Value) (w : World) (m0 : 0 ≤ miss) (m1 : miss ≤ 20)
  (a0 : 0 ≤ g0) (b0 : g0 ≤ 200) (a1 : 0 ≤ g1) (b1 : g1 ≤ 200) (a2 : 0 ≤ g2) (b2 : g2 ≤ 200) (a3 : 0 ≤ g3) (b3 : g3 ≤ 200) (n0 : 10 ≤ g0 + g1 + g2 + g3) (n1 : g0 + g1 + g2 + g3 ≤ 200) :
  Calls Try.prog 101 #[.agg #[.int .i64 full, .int .i64 empty, hs, .int .i64 err, .int .i64 miss, gs, cf], .agg #[.int .i64 spot, .int .i64 g0, .int .i64 g1, .int .i64 g2, .int .i64 g3], .int .i64 3] w fun e w' => e = .returned (.agg #[.int .i64 (letLo miss (g0 + g1 + g2 + g3) g3), .int .i64 (letHi miss (g0 + g1 + g2 + g3) g3)]) ∧ Below w.heap.size w w' :=
 lets_any full empty err miss spot g0 g1 g2 g3 g3 hs gs cf 3 w m0 m1 a0 b0 a1 b1 a2 b2 a3 b3 n0 n1 (by omega) rfl
set_option maxRecDepth 100000 in
set_option maxHeartbeats 2000000 in
theorem letsAll_any (full empty err miss spot g0 g1 g2 g3 : Int) (hs gs cf : Value) (w : World) (m0 : 0 ≤ miss) (m1 : miss ≤ 20)
  (a0 : 0 ≤ g0) (b0 : g0 ≤ 200) (a1 : 0 ≤ g1) (b1 : g1 ≤ 200) (a2 : 0 ≤ g2) (b2 : g2 ≤ 200) (a3 : 0 ≤ g3) (b3 : g3 ≤ 200) (n0 : 10 ≤ g0 + g1 + g2 + g3) (n1 : g0 + g1 + g2 + g3 ≤ 200) :
  Calls Try.prog 138 #[.agg #[.int .i64 full, .int .i64 empty, hs, .int .i64 err, .int .i64 miss, gs, cf], .agg #[.int .i64 spot, .int .i64 g0, .int .i64 g1, .int .i64 g2, .int .i64 g3]] w fun e w' => e = .returned (.agg #[.int .i64 (letLo miss (g0 + g1 + g2 + g3) g0), .int .i64 (letHi miss (g0 + g1 + g2 + g3) g0), .int .i64 (letLo miss (g0 + g1 + g2 + g3) g1), .int .i64 (letHi miss (g0 + g1 + g2 + g3) g1), .int .i64 (letLo miss (g0 + g1 + g2 + g3) g2), .int .i64 (letHi miss (g0 + g1 + g2 + g3) g2), .int .i64 (letLo miss (g0 + g1 + g2 + g3) g3), .int .i64 (letHi miss (g0 + g1 + g2 + g3) g3)]) ∧ Below w.heap.size w w' := by
 go_enter Try.func138, Try.ntmps138
 go_wp2_with fail
 go_loopw [7] (fun v7 wr => Below w.heap.size w wr ∧ w.heap.size + 4 ≤ wr.heap.size ∧ Holds wr (w.heap.size) 147 #[.int .i64 full, .int .i64 empty, hs, .int .i64 err, .int .i64 miss, gs, cf] ∧ Holds wr (w.heap.size + 1) 30 #[.int .i64 spot, .int .i64 g0, .int .i64 g1, .int .i64 g2, .int .i64 g3] ∧ Holds wr (w.heap.size + 1 + 1) 153 #[.int .i64 0, .int .i64 0, .int .i64 0, .int .i64 0, .int .i64 0, .int .i64 0, .int .i64 0, .int .i64 0] ∧ ((v7 = .int .i64 0 ∧ Holds wr (w.heap.size + 1 + 1 + 1) 153 #[.int .i64 0, .int .i64 0, .int .i64 0, .int .i64 0, .int .i64 0, .int .i64 0, .int .i64 0, .int .i64 0]) ∨ (v7 = .int .i64 1 ∧ Holds wr (w.heap.size + 1 + 1 + 1) 153 #[.int .i64 (letLo miss (g0 + g1 + g2 + g3) g0), .int .i64 (letHi miss (g0 + g1 + g2 + g3) g0), .int .i64 0, .int .i64 0, .int .i64 0, .int .i64 0, .int .i64 0, .int .i64 0]) ∨ (v7 = .int .i64 2 ∧ Holds wr (w.heap.size + 1 + 1 + 1) 153 #[.int .i64 (letLo miss (g0 + g1 + g2 + g3) g0), .int .i64 (letHi miss (g0 + g1 + g2 + g3) g0), .int .i64 (letLo miss (g0 + g1 + g2 + g3) g1), .int .i64 (letHi miss (g0 + g1 + g2 + g3) g1), .int .i64 0, .int .i64 0, .int .i64 0, .int .i64 0]) ∨ (v7 = .int .i64 3 ∧ Holds wr (w.heap.size + 1 + 1 + 1) 153 #[.int .i64 (letLo miss (g0 + g1 + g2 + g3) g0), .int .i64 (letHi miss (g0 + g1 + g2 + g3) g0), .int .i64 (letLo miss (g0 + g1 + g2 + g3) g1), .int .i64 (letHi miss (g0 + g1 + g2 + g3) g1), .int .i64 (letLo miss (g0 + g1 + g2 + g3) g2), .int .i64 (letHi miss (g0 + g1 + g2 + g3) g2), .int .i64 0, .int .i64 0]) ∨ (v7 = .int .i64 4 ∧ Holds wr (w.heap.size + 1 + 1 + 1) 153 #[.int .i64 (letLo miss (g0 + g1 + g2 + g3) g0), .int .i64 (letHi miss (g0 + g1 + g2 + g3) g0), .int .i64 (letLo miss (g0 + g1 + g2 + g3) g1), .int .i64 (letHi miss (g0 + g1 + g2 + g3) g1), .int .i64 (letLo miss (g0 + g1 + g2 + g3) g2), .int .i64 (letHi miss (g0 + g1 + g2 + g3) g2), .int .i64 (letLo miss (g0 + g1 + g2 + g3) g3), .int .i64 (letHi miss (g0 + g1 + g2 + g3) g3)]))) (fun v7 _ => 4 - (intOf v7).toNat)
 case atStart => exact ⟨zg, by simp, zp0, zp0, zp0, .inl ⟨rfl, zp0⟩⟩
 case round =>
  obtain ⟨hB, hS, Hc, Hh, Hr, ⟨rfl, Hn⟩ | ⟨rfl, Hn⟩ | ⟨rfl, Hn⟩ | ⟨rfl, Hn⟩ | ⟨rfl, Hn⟩⟩ := hrel
  ·have cc0 : wr.cell? ⟨w.heap.size, 0, none⟩ = some (.int .i64 full) := Hc.cell 0
   have cc1 : wr.cell? ⟨w.heap.size, 1, none⟩ = some (.int .i64 empty) := Hc.cell 1
   have cc2 : wr.cell? ⟨w.heap.size, 2, none⟩ = some (hs) := Hc.cell 2
   have cc3 : wr.cell? ⟨w.heap.size, 3, none⟩ = some (.int .i64 err) := Hc.cell 3
   have cc4 : wr.cell? ⟨w.heap.size, 4, none⟩ = some (.int .i64 miss) := Hc.cell 4
   have cc5 : wr.cell? ⟨w.heap.size, 5, none⟩ = some (gs) := Hc.cell 5
   have cc6 : wr.cell? ⟨w.heap.size, 6, none⟩ = some (cf) := Hc.cell 6
   obtain ⟨ch0, ch1, ch2, ch3, ch4⟩ := Hh.c5
   go_wp2_with (go_at_call 101; refine (lets_0 full empty err miss spot g0 g1 g2 g3 hs gs cf _ m0 m1 a0 b0 a1 b1 a2 b2 a3 b3 n0 n1).mono ?_; rintro e w2 ⟨rfl, hb2⟩; have Hc2 := Hc.up hb2; have Hh2 := Hh.up hb2; have Hr2 := Hr.up hb2; have Hn2 := Hn.up hb2; have hB2 : Below w.heap.size w w2 := hB.trans (hb2.mono (by omega)); have hs2 := hb2.size; clear hb2 Hc Hh Hr Hn; have cn0 : w2.cell? ⟨w.heap.size + 1 + 1 + 1, 0, none⟩ = some (.int .i64 0) := Hn2.cell 0; have cn1 : w2.cell? ⟨w.heap.size + 1 + 1 + 1, 1, none⟩ = some (.int .i64 0) := Hn2.cell 1; have zn0 : w2.frozen? ⟨w.heap.size + 1 + 1 + 1, 0, none⟩ = false := Hn2.frozen 0; have zn1 : w2.frozen? ⟨w.heap.size + 1 + 1 + 1, 1, none⟩ = false := Hn2.frozen 1)
   go_roundw
   case rel => exact ⟨zg, by simp; omega, zp0, zp0, zp0, .inr (.inl ⟨rfl, zp0⟩)⟩
   case measure => simp [intOf]
  ·have cc0 : wr.cell? ⟨w.heap.size, 0, none⟩ = some (.int .i64 full) := Hc.cell 0
   have cc1 : wr.cell? ⟨w.heap.size, 1, none⟩ = some (.int .i64 empty) := Hc.cell 1
   have cc2 : wr.cell? ⟨w.heap.size, 2, none⟩ = some (hs) := Hc.cell 2
   have cc3 : wr.cell? ⟨w.heap.size, 3, none⟩ = some (.int .i64 err) := Hc.cell 3
   have cc4 : wr.cell? ⟨w.heap.size, 4, none⟩ = some (.int .i64 miss) := Hc.cell 4
   have cc5 : wr.cell? ⟨w.heap.size, 5, none⟩ = some (gs) := Hc.cell 5
   have cc6 : wr.cell? ⟨w.heap.size, 6, none⟩ = some (cf) := Hc.cell 6
   obtain ⟨ch0, ch1, ch2, ch3, ch4⟩ := Hh.c5
   go_wp2_with (go_at_call 101; refine (lets_1 full empty err miss spot g0 g1 g2 g3 hs gs cf _ m0 m1 a0 b0 a1 b1 a2 b2 a3 b3 n0 n1).mono ?_; rintro e w2 ⟨rfl, hb2⟩; have Hc2 := Hc.up hb2; have Hh2 := Hh.up hb2; have Hr2 := Hr.up hb2; have Hn2 := Hn.up hb2; have hB2 : Below w.heap.size w w2 := hB.trans (hb2.mono (by omega)); have hs2 := hb2.size; clear hb2 Hc Hh Hr Hn; have cn2 : w2.cell? ⟨w.heap.size + 1 + 1 + 1, 2, none⟩ = some (.int .i64 0) := Hn2.cell 2; have cn3 : w2.cell? ⟨w.heap.size + 1 + 1 + 1, 3, none⟩ = some (.int .i64 0) := Hn2.cell 3; have zn2 : w2.frozen? ⟨w.heap.size + 1 + 1 + 1, 2, none⟩ = false := Hn2.frozen 2; have zn3 : w2.frozen? ⟨w.heap.size + 1 + 1 + 1, 3, none⟩ = false := Hn2.frozen 3)
   go_roundw
   case rel => exact ⟨zg, by simp; omega, zp0, zp0, zp0, .inr (.inr (.inl ⟨rfl, zp0⟩))⟩
   case measure => simp [intOf]
  ·have cc0 : wr.cell? ⟨w.heap.size, 0, none⟩ = some (.int .i64 full) := Hc.cell 0
   have cc1 : wr.cell? ⟨w.heap.size, 1, none⟩ = some (.int .i64 empty) := Hc.cell 1
   have cc2 : wr.cell? ⟨w.heap.size, 2, none⟩ = some (hs) := Hc.cell 2
   have cc3 : wr.cell? ⟨w.heap.size, 3, none⟩ = some (.int .i64 err) := Hc.cell 3
   have cc4 : wr.cell? ⟨w.heap.size, 4, none⟩ = some (.int .i64 miss) := Hc.cell 4
   have cc5 : wr.cell? ⟨w.heap.size, 5, none⟩ = some (gs) := Hc.cell 5
   have cc6 : wr.cell? ⟨w.heap.size, 6, none⟩ = some (cf) := Hc.cell 6
   obtain ⟨ch0, ch1, ch2, ch3, ch4⟩ := Hh.c5
   go_wp2_with (go_at_call 101; refine (lets_2 full empty err miss spot g0 g1 g2 g3 hs gs cf _ m0 m1 a0 b0 a1 b1 a2 b2 a3 b3 n0 n1).mono ?_; rintro e w2 ⟨rfl, hb2⟩; have Hc2 := Hc.up hb2; have Hh2 := Hh.up hb2; have Hr2 := Hr.up hb2; have Hn2 := Hn.up hb2; have hB2 : Below w.heap.size w w2 := hB.trans (hb2.mono (by omega)); have hs2 := hb2.size; clear hb2 Hc Hh Hr Hn; have cn4 : w2.cell? ⟨w.heap.size + 1 + 1 + 1, 4, none⟩ = some (.int .i64 0) := Hn2.cell 4; have cn5 : w2.cell? ⟨w.heap.size + 1 + 1 + 1, 5, none⟩ = some (.int .i64 0) := Hn2.cell 5; have zn4 : w2.frozen? ⟨w.heap.size + 1 + 1 + 1, 4, none⟩ = false := Hn2.frozen 4; have zn5 : w2.frozen? ⟨w.heap.size + 1 + 1 + 1, 5, none⟩ = false := Hn2.frozen 5)
   go_roundw
   case rel => exact ⟨zg, by simp; omega, zp0, zp0, zp0, .inr (.inr (.inr (.inl ⟨rfl, zp0⟩)))⟩
   case measure => simp [intOf]
  ·have cc0 : wr.cell? ⟨w.heap.size, 0, none⟩ = some (.int .i64 full) := Hc.cell 0
   have cc1 : wr.cell? ⟨w.heap.size, 1, none⟩ = some (.int .i64 empty) := Hc.cell 1
   have cc2 : wr.cell? ⟨w.heap.size, 2, none⟩ = some (hs) := Hc.cell 2
   have cc3 : wr.cell? ⟨w.heap.size, 3, none⟩ = some (.int .i64 err) := Hc.cell 3
   have cc4 : wr.cell? ⟨w.heap.size, 4, none⟩ = some (.int .i64 miss) := Hc.cell 4
   have cc5 : wr.cell? ⟨w.heap.size, 5, none⟩ = some (gs) := Hc.cell 5
   have cc6 : wr.cell? ⟨w.heap.size, 6, none⟩ = some (cf) := Hc.cell 6
   obtain ⟨ch0, ch1, ch2, ch3, ch4⟩ := Hh.c5
   go_wp2_with (go_at_call 101; refine (lets_3 full empty err miss spot g0 g1 g2 g3 hs gs cf _ m0 m1 a0 b0 a1 b1 a2 b2 a3 b3 n0 n1).mono ?_; rintro e w2 ⟨rfl, hb2⟩; have Hc2 := Hc.up hb2; have Hh2 := Hh.up hb2; have Hr2 := Hr.up hb2; have Hn2 := Hn.up hb2; have hB2 : Below w.heap.size w w2 := hB.trans (hb2.mono (by omega)); have hs2 := hb2.size; clear hb2 Hc Hh Hr Hn; have cn6 : w2.cell? ⟨w.heap.size + 1 + 1 + 1, 6, none⟩ = some (.int .i64 0) := Hn2.cell 6; have cn7 : w2.cell? ⟨w.heap.size + 1 + 1 + 1, 7, none⟩ = some (.int .i64 0) := Hn2.cell 7; have zn6 : w2.frozen? ⟨w.heap.size + 1 + 1 + 1, 6, none⟩ = false := Hn2.frozen 6; have zn7 : w2.frozen? ⟨w.heap.size + 1 + 1 + 1, 7, none⟩ = false := Hn2.frozen 7)
   go_roundw
   case rel => exact ⟨zg, by simp; omega, zp0, zp0, zp0, .inr (.inr (.inr (.inr (⟨rfl, zp0⟩))))⟩
   case measure => simp [intOf]
  ·have cn0 : wr.cell? ⟨w.heap.size + 1 + 1 + 1, 0, none⟩ = some (.int .i64 (letLo miss (g0 + g1 + g2 + g3) g0)) := Hn.cell 0
   have cn1 : wr.cell? ⟨w.heap.size + 1 + 1 + 1, 1, none⟩ = some (.int .i64 (letHi miss (g0 + g1 + g2 + g3) g0)) := Hn.cell 1
   have cn2 : wr.cell? ⟨w.heap.size + 1 + 1 + 1, 2, none⟩ = some (.int .i64 (letLo miss (g0 + g1 + g2 + g3) g1)) := Hn.cell 2
   have cn3 : wr.cell? ⟨w.heap.size + 1 + 1 + 1, 3, none⟩ = some (.int .i64 (letHi miss (g0 + g1 + g2 + g3) g1)) := Hn.cell 3
   have cn4 : wr.cell? ⟨w.heap.size + 1 + 1 + 1, 4, none⟩ = some (.int .i64 (letLo miss (g0 + g1 + g2 + g3) g2)) := Hn.cell 4
   have cn5 : wr.cell? ⟨w.heap.size + 1 + 1 + 1, 5, none⟩ = some (.int .i64 (letHi miss (g0 + g1 + g2 + g3) g2)) := Hn.cell 5
   have cn6 : wr.cell? ⟨w.heap.size + 1 + 1 + 1, 6, none⟩ = some (.int .i64 (letLo miss (g0 + g1 + g2 + g3) g3)) := Hn.cell 6
   have cn7 : wr.cell? ⟨w.heap.size + 1 + 1 + 1, 7, none⟩ = some (.int .i64 (letHi miss (g0 + g1 + g2 + g3) g3)) := Hn.cell 7
   obtain ⟨cr0, cr1, cr2, cr3, cr4, cr5, cr6, cr7⟩ := Hr.c8
   obtain ⟨zr0, zr1, zr2, zr3, zr4, zr5, zr6, zr7⟩ := Hr.f8
   go_wp2_with fail
   refine ret_cell (t := 153) rfl rfl ?_ Try.underlying153 rfl (by kernel_rfl) rfl ⟨rfl, zg⟩
   exact Hr.set8 _ _ _ _ _ _ _ _
attribute [local go_sem] ix4_0 ix4_1 ix4_2 ix4_3 ix8_0 ix8_1 ix8_2 ix8_3 eqlW_span eqlW_box
set_option maxRecDepth 100000 in
set_option maxHeartbeats 2000000 in
theorem narrow_any (b : Bx) (o : b.ok) (w : World) :
  Calls Try.prog 139 #[.agg #[.int .i64 b.l0, .int .i64 b.h0, .int .i64 b.l1, .int .i64 b.h1, .int .i64 b.l2, .int .i64 b.h2, .int .i64 b.l3, .int .i64 b.h3]] w fun e w' => e = .returned (.agg #[.int .i64 b.narrow.l0, .int .i64 b.narrow.h0, .int .i64 b.narrow.l1, .int .i64 b.narrow.h1, .int .i64 b.narrow.l2, .int .i64 b.narrow.h2, .int .i64 b.narrow.l3, .int .i64 b.narrow.h3]) ∧ Below w.heap.size w w' := by
 go_enter Try.func139, Try.ntmps139
 go_wp2_with fail
 go_loopg [3] b.wide (fun k _ wr => ∃ c : Bx, Below w.heap.size w wr ∧ w.heap.size + 2 ≤ wr.heap.size ∧ c.ok ∧ c.wide ≤ k ∧ c.narrow = b.narrow ∧ Holds wr (w.heap.size) 153 #[.int .i64 c.l0, .int .i64 c.h0, .int .i64 c.l1, .int .i64 c.h1, .int .i64 c.l2, .int .i64 c.h2, .int .i64 c.l3, .int .i64 c.h3] ∧ Holds wr (w.heap.size + 1) 153 #[.int .i64 0, .int .i64 0, .int .i64 0, .int .i64 0, .int .i64 0, .int .i64 0, .int .i64 0, .int .i64 0])
 case atStart => exact ⟨b, zg, by simp, o, Nat.le_refl _, rfl, zp0, zp0⟩
 case round =>
  obtain ⟨c, hB, hS, oc, hw, hn, Hc, Hr⟩ := hrel
  have HN := Lib.hid hn
  clear hn
  obtain ⟨cc0, cc1, cc2, cc3, cc4, cc5, cc6, cc7⟩ := Hc.c8
  cases hq : c.room.eqb c
  ·go_wp2_with (go_at_call 145; refine (room_any c oc _).mono ?_; rintro e w2 ⟨rfl, hb2⟩; have Hc2 := Hc.up hb2; have Hr2 := Hr.up hb2; have hB2 : Below w.heap.size w w2 := hB.trans (hb2.mono (by omega)); have hs2 := hb2.size; have hl0 : w.heap.size < w2.heap.size := (by omega); have hl1 : w.heap.size + 1 < w2.heap.size := (by omega); clear hb2; have cc20 : w2.cell? ⟨w.heap.size, 0, none⟩ = some (.int .i64 c.l0) := Hc2.cell 0; have zc20 : w2.frozen? ⟨w.heap.size, 0, none⟩ = false := Hc2.frozen 0; have cc21 : w2.cell? ⟨w.heap.size, 1, none⟩ = some (.int .i64 c.h0) := Hc2.cell 1; have zc21 : w2.frozen? ⟨w.heap.size, 1, none⟩ = false := Hc2.frozen 1; have cc22 : w2.cell? ⟨w.heap.size, 2, none⟩ = some (.int .i64 c.l1) := Hc2.cell 2; have zc22 : w2.frozen? ⟨w.heap.size, 2, none⟩ = false := Hc2.frozen 2; have cc23 : w2.cell? ⟨w.heap.size, 3, none⟩ = some (.int .i64 c.h1) := Hc2.cell 3; have zc23 : w2.frozen? ⟨w.heap.size, 3, none⟩ = false := Hc2.frozen 3; have cc24 : w2.cell? ⟨w.heap.size, 4, none⟩ = some (.int .i64 c.l2) := Hc2.cell 4; have zc24 : w2.frozen? ⟨w.heap.size, 4, none⟩ = false := Hc2.frozen 4; have cc25 : w2.cell? ⟨w.heap.size, 5, none⟩ = some (.int .i64 c.h2) := Hc2.cell 5; have zc25 : w2.frozen? ⟨w.heap.size, 5, none⟩ = false := Hc2.frozen 5; have cc26 : w2.cell? ⟨w.heap.size, 6, none⟩ = some (.int .i64 c.l3) := Hc2.cell 6; have zc26 : w2.frozen? ⟨w.heap.size, 6, none⟩ = false := Hc2.frozen 6; have cc27 : w2.cell? ⟨w.heap.size, 7, none⟩ = some (.int .i64 c.h3) := Hc2.cell 7; have zc27 : w2.frozen? ⟨w.heap.size, 7, none⟩ = false := Hc2.frozen 7; have cr20 : w2.cell? ⟨w.heap.size + 1, 0, none⟩ = some (.int .i64 0) := Hr2.cell 0; have zr20 : w2.frozen? ⟨w.heap.size + 1, 0, none⟩ = false := Hr2.frozen 0; have cr21 : w2.cell? ⟨w.heap.size + 1, 1, none⟩ = some (.int .i64 0) := Hr2.cell 1; have zr21 : w2.frozen? ⟨w.heap.size + 1, 1, none⟩ = false := Hr2.frozen 1; have cr22 : w2.cell? ⟨w.heap.size + 1, 2, none⟩ = some (.int .i64 0) := Hr2.cell 2; have zr22 : w2.frozen? ⟨w.heap.size + 1, 2, none⟩ = false := Hr2.frozen 2; have cr23 : w2.cell? ⟨w.heap.size + 1, 3, none⟩ = some (.int .i64 0) := Hr2.cell 3; have zr23 : w2.frozen? ⟨w.heap.size + 1, 3, none⟩ = false := Hr2.frozen 3; have cr24 : w2.cell? ⟨w.heap.size + 1, 4, none⟩ = some (.int .i64 0) := Hr2.cell 4; have zr24 : w2.frozen? ⟨w.heap.size + 1, 4, none⟩ = false := Hr2.frozen 4; have cr25 : w2.cell? ⟨w.heap.size + 1, 5, none⟩ = some (.int .i64 0) := Hr2.cell 5; have zr25 : w2.frozen? ⟨w.heap.size + 1, 5, none⟩ = false := Hr2.frozen 5; have cr26 : w2.cell? ⟨w.heap.size + 1, 6, none⟩ = some (.int .i64 0) := Hr2.cell 6; have zr26 : w2.frozen? ⟨w.heap.size + 1, 6, none⟩ = false := Hr2.frozen 6; have cr27 : w2.cell? ⟨w.heap.size + 1, 7, none⟩ = some (.int .i64 0) := Hr2.cell 7; have zr27 : w2.frozen? ⟨w.heap.size + 1, 7, none⟩ = false := Hr2.frozen 7)
   go_roundg (c.room.wide)
   case rel => exact ⟨c.room, zg, by simp; omega, oc.room, Nat.le_refl _, (oc.narrow_step hq).symm.trans HN.out, zp0, zp0⟩
   case measure => exact Nat.lt_of_lt_of_le (oc.shrinks hq) hw
  ·go_wp2_with (go_at_call 145; refine (room_any c oc _).mono ?_; rintro e w2 ⟨rfl, hb2⟩; have Hc2 := Hc.up hb2; have Hr2 := Hr.up hb2; have hB2 : Below w.heap.size w w2 := hB.trans (hb2.mono (by omega)); have hs2 := hb2.size; have hl0 : w.heap.size < w2.heap.size := (by omega); have hl1 : w.heap.size + 1 < w2.heap.size := (by omega); clear hb2; have cc20 : w2.cell? ⟨w.heap.size, 0, none⟩ = some (.int .i64 c.l0) := Hc2.cell 0; have zc20 : w2.frozen? ⟨w.heap.size, 0, none⟩ = false := Hc2.frozen 0; have cc21 : w2.cell? ⟨w.heap.size, 1, none⟩ = some (.int .i64 c.h0) := Hc2.cell 1; have zc21 : w2.frozen? ⟨w.heap.size, 1, none⟩ = false := Hc2.frozen 1; have cc22 : w2.cell? ⟨w.heap.size, 2, none⟩ = some (.int .i64 c.l1) := Hc2.cell 2; have zc22 : w2.frozen? ⟨w.heap.size, 2, none⟩ = false := Hc2.frozen 2; have cc23 : w2.cell? ⟨w.heap.size, 3, none⟩ = some (.int .i64 c.h1) := Hc2.cell 3; have zc23 : w2.frozen? ⟨w.heap.size, 3, none⟩ = false := Hc2.frozen 3; have cc24 : w2.cell? ⟨w.heap.size, 4, none⟩ = some (.int .i64 c.l2) := Hc2.cell 4; have zc24 : w2.frozen? ⟨w.heap.size, 4, none⟩ = false := Hc2.frozen 4; have cc25 : w2.cell? ⟨w.heap.size, 5, none⟩ = some (.int .i64 c.h2) := Hc2.cell 5; have zc25 : w2.frozen? ⟨w.heap.size, 5, none⟩ = false := Hc2.frozen 5; have cc26 : w2.cell? ⟨w.heap.size, 6, none⟩ = some (.int .i64 c.l3) := Hc2.cell 6; have zc26 : w2.frozen? ⟨w.heap.size, 6, none⟩ = false := Hc2.frozen 6; have cc27 : w2.cell? ⟨w.heap.size, 7, none⟩ = some (.int .i64 c.h3) := Hc2.cell 7; have zc27 : w2.frozen? ⟨w.heap.size, 7, none⟩ = false := Hc2.frozen 7; have cr20 : w2.cell? ⟨w.heap.size + 1, 0, none⟩ = some (.int .i64 0) := Hr2.cell 0; have zr20 : w2.frozen? ⟨w.heap.size + 1, 0, none⟩ = false := Hr2.frozen 0; have cr21 : w2.cell? ⟨w.heap.size + 1, 1, none⟩ = some (.int .i64 0) := Hr2.cell 1; have zr21 : w2.frozen? ⟨w.heap.size + 1, 1, none⟩ = false := Hr2.frozen 1; have cr22 : w2.cell? ⟨w.heap.size + 1, 2, none⟩ = some (.int .i64 0) := Hr2.cell 2; have zr22 : w2.frozen? ⟨w.heap.size + 1, 2, none⟩ = false := Hr2.frozen 2; have cr23 : w2.cell? ⟨w.heap.size + 1, 3, none⟩ = some (.int .i64 0) := Hr2.cell 3; have zr23 : w2.frozen? ⟨w.heap.size + 1, 3, none⟩ = false := Hr2.frozen 3; have cr24 : w2.cell? ⟨w.heap.size + 1, 4, none⟩ = some (.int .i64 0) := Hr2.cell 4; have zr24 : w2.frozen? ⟨w.heap.size + 1, 4, none⟩ = false := Hr2.frozen 4; have cr25 : w2.cell? ⟨w.heap.size + 1, 5, none⟩ = some (.int .i64 0) := Hr2.cell 5; have zr25 : w2.frozen? ⟨w.heap.size + 1, 5, none⟩ = false := Hr2.frozen 5; have cr26 : w2.cell? ⟨w.heap.size + 1, 6, none⟩ = some (.int .i64 0) := Hr2.cell 6; have zr26 : w2.frozen? ⟨w.heap.size + 1, 6, none⟩ = false := Hr2.frozen 6; have cr27 : w2.cell? ⟨w.heap.size + 1, 7, none⟩ = some (.int .i64 0) := Hr2.cell 7; have zr27 : w2.frozen? ⟨w.heap.size + 1, 7, none⟩ = false := Hr2.frozen 7)
   have hf : c = b.narrow := by rw [← HN.out]; exact (oc.narrow_fix hq).symm
   refine ret_cell (t := 153) rfl rfl ?_ Try.underlying153 rfl (by kernel_rfl) rfl ⟨rfl, zg⟩
   rw [← hf]
   exact zp0
end Go.Proofs.Ytifffonoipapgaa
