
import Derived.Test.YtdpgfaikmahmpaaKAA
import Derived.Test.YtdpgfaikmahmpaaKAC
import Derived.Test.YtdpgfaikmahmpaaKAE
import Derived.Test.YtdpgfaikmahmpaaKAG
import Derived.Test.YtdpgfaikmahmpaaKAI
set_option linter.unusedSimpArgs false
set_option linter.unusedVariables false
namespace Go.Proofs.Ytdpgfaikmahmpaa
open Go.RowKit
theorem Holds.set7 {w : World} {B : Nat} {t : TypeId} {a0 a1 a2 a3 a4 a5 a6 : Value} (u0 u1 u2 u3 u4 u5 u6 : Value) (h : Holds w B t #[a0, a1, a2, a3, a4, a5, a6]) :
  Holds (((((((w.setCell ⟨B, 0, none⟩ u0).setCell ⟨B, 1, none⟩ u1).setCell ⟨B, 2, none⟩ u2).setCell ⟨B, 3, none⟩ u3).setCell ⟨B, 4, none⟩ u4).setCell ⟨B, 5, none⟩ u5).setCell ⟨B, 6, none⟩ u6) B t #[u0, u1, u2, u3, u4, u5, u6] := (((((((h.setL 0 _).setL 1 _).setL 2 _).setL 3 _).setL 4 _).setL 5 _).setL 6 _)
set_option maxRecDepth 100000 in
theorem hasHandful_any (full empty : Int) (A : Option Addr) (n c : Nat) (i : Int) (w : World) (hn : n ≤ 1000) :
  Calls Try.prog 99 #[.agg #[.int .i64 full, .int .i64 empty, .slice A n c], .int .i64 i] w fun e w' => e = .returned (.bool (within i 0 ((n : Int) - 1))) ∧ Below w.heap.size w w' := by
 go_enter Try.func99, Try.ntmps99
 go_wp2_with (go_at_call 82; refine (within_w _ _ _ _).mono ?_; rintro e w' ⟨rfl, rfl⟩)
 go_ret
 exact ⟨rfl, zg⟩
set_option maxRecDepth 100000 in
set_option maxHeartbeats 1000000 in
theorem arrive_ok (err miss full empty : Int) (G A : Option Addr) (d c : Nat) (gs : List Gr) (hs : List Hf) (w : World) (hG : GradesAt w G gs) (hgl : gs.length ≤ 1000) (hA : HandsAt w A hs) (hl : hs.length ≤ 1000) (he : gateErr err miss gs = 0) (hc : cartErr full empty hs = 0) :
  Calls Try.prog 97 #[.agg #[.int .i64 err, .int .i64 miss, .slice G gs.length d], .agg #[.int .i64 full, .int .i64 empty, .slice A hs.length c]] w fun e w' => e = .returned (.tuple #[.agg #[.int .i64 full, .int .i64 empty, .slice A hs.length c, .int .i64 err, .int .i64 miss, .slice G gs.length d, .func (.func 99) #[.agg #[.int .i64 full, .int .i64 empty, .slice A hs.length c]] #[]], .int .i64 0]) ∧ Below w.heap.size w w' := by
 have HA := Lib.hid hA
 have HG := Lib.hid hG
 clear hA hG
 have hq : (gateErr err miss gs != 0) = false := by simp [he]
 have hq2 : (cartErr full empty hs != 0) = false := by simp [hc]
 clear he hc
 have hmf : ∀ (fn : Fn) (first cap : Array Value) (w : World), (Instr.makeFunc fn first cap).run Try.prog w = .ok (.func fn first cap) w := fun _ _ _ _ => rfl
 go_enter Try.func97, Try.ntmps97
 go_wp2_with (first | (go_at_call 22; refine (Check_any err miss G d gs _ (HG.out.up zg) hgl).mono ?_; rintro e w2 ⟨rfl, hb2⟩; have Hgw2 : Holds w2 (w.heap.size) 24 #[.int .i64 err, .int .i64 miss, .slice G gs.length d] := Holds.up zp0 hb2; have Hcw2 : Holds w2 (w.heap.size + 1) 27 #[.int .i64 full, .int .i64 empty, .slice A hs.length c] := Holds.up zp0 hb2; have Hrw2 : Holds w2 (w.heap.size + 1 + 1) 147 #[.int .i64 0, .int .i64 0, .slice none 0 0, .int .i64 0, .int .i64 0, .slice none 0 0, .nilFunc] := Holds.up zp0 hb2; have hBw2 : Below w.heap.size w w2 := Below.trans zg (hb2.mono (by first | omega | (simp; omega) | simp)); have hsw2 := hb2.size; simp only [World.size_alloc] at hsw2; have hlw2 : w.heap.size + 1 + 1 < w2.heap.size := (by omega); clear hb2; have cg0 : w2.cell? ⟨w.heap.size, 0, none⟩ = some (.int .i64 err) := Hgw2.cell 0; have cg1 : w2.cell? ⟨w.heap.size, 1, none⟩ = some (.int .i64 miss) := Hgw2.cell 1; have cg2 : w2.cell? ⟨w.heap.size, 2, none⟩ = some (.slice G gs.length d) := Hgw2.cell 2; have cc0 : w2.cell? ⟨w.heap.size + 1, 0, none⟩ = some (.int .i64 full) := Hcw2.cell 0; have cc1 : w2.cell? ⟨w.heap.size + 1, 1, none⟩ = some (.int .i64 empty) := Hcw2.cell 1; have cc2 : w2.cell? ⟨w.heap.size + 1, 2, none⟩ = some (.slice A hs.length c) := Hcw2.cell 2; have cr0 : w2.cell? ⟨w.heap.size + 1 + 1, 0, none⟩ = some (.int .i64 0) := Hrw2.cell 0; have zr0 : w2.frozen? ⟨w.heap.size + 1 + 1, 0, none⟩ = false := Hrw2.frozen 0; have cr1 : w2.cell? ⟨w.heap.size + 1 + 1, 1, none⟩ = some (.int .i64 0) := Hrw2.cell 1; have zr1 : w2.frozen? ⟨w.heap.size + 1 + 1, 1, none⟩ = false := Hrw2.frozen 1; have cr2 : w2.cell? ⟨w.heap.size + 1 + 1, 2, none⟩ = some (.slice none 0 0) := Hrw2.cell 2; have zr2 : w2.frozen? ⟨w.heap.size + 1 + 1, 2, none⟩ = false := Hrw2.frozen 2; have cr3 : w2.cell? ⟨w.heap.size + 1 + 1, 3, none⟩ = some (.int .i64 0) := Hrw2.cell 3; have zr3 : w2.frozen? ⟨w.heap.size + 1 + 1, 3, none⟩ = false := Hrw2.frozen 3; have cr4 : w2.cell? ⟨w.heap.size + 1 + 1, 4, none⟩ = some (.int .i64 0) := Hrw2.cell 4; have zr4 : w2.frozen? ⟨w.heap.size + 1 + 1, 4, none⟩ = false := Hrw2.frozen 4; have cr5 : w2.cell? ⟨w.heap.size + 1 + 1, 5, none⟩ = some (.slice none 0 0) := Hrw2.cell 5; have zr5 : w2.frozen? ⟨w.heap.size + 1 + 1, 5, none⟩ = false := Hrw2.frozen 5; have cr6 : w2.cell? ⟨w.heap.size + 1 + 1, 6, none⟩ = some (.nilFunc) := Hrw2.cell 6; have zr6 : w2.frozen? ⟨w.heap.size + 1 + 1, 6, none⟩ = false := Hrw2.frozen 6) | (go_at_call 25; refine (CheckCart_any full empty A c hs _ (HA.out.up (by first | exact hBw2 | (repeat' (first | (with_reducible first | exact Below.refl _ _ | assumption | refine Below.alloc ?_ ?_ _ | refine Below.drew ?_ | refine Below.setCell ?_ ?_ _ | exact Nat.le_refl _) | omega | (simp only [World.size_alloc, World.size_setCell, World.size_drew]; omega) | (simp; omega) | (simp; done))))) hl).mono ?_; rintro e w3 ⟨rfl, hb3⟩; have Hgw3 : Holds w3 (w.heap.size) 24 #[.int .i64 err, .int .i64 miss, .slice G gs.length d] := Holds.up zp0 hb3; have Hcw3 : Holds w3 (w.heap.size + 1) 27 #[.int .i64 full, .int .i64 empty, .slice A hs.length c] := Holds.up zp0 hb3; have Hrw3 : Holds w3 (w.heap.size + 1 + 1) 147 #[.int .i64 0, .int .i64 0, .slice none 0 0, .int .i64 0, .int .i64 0, .slice none 0 0, .nilFunc] := Holds.up zp0 hb3; have hBw3 : Below w.heap.size w w3 := Below.trans zg (hb3.mono (by first | omega | (simp; omega) | simp)); have hsw3 := hb3.size; have hlw3 : w.heap.size + 1 + 1 < w3.heap.size := (by omega); clear hb3; have cg0 : w3.cell? ⟨w.heap.size, 0, none⟩ = some (.int .i64 err) := Hgw3.cell 0; have cg1 : w3.cell? ⟨w.heap.size, 1, none⟩ = some (.int .i64 miss) := Hgw3.cell 1; have cg2 : w3.cell? ⟨w.heap.size, 2, none⟩ = some (.slice G gs.length d) := Hgw3.cell 2; have cc0 : w3.cell? ⟨w.heap.size + 1, 0, none⟩ = some (.int .i64 full) := Hcw3.cell 0; have cc1 : w3.cell? ⟨w.heap.size + 1, 1, none⟩ = some (.int .i64 empty) := Hcw3.cell 1; have cc2 : w3.cell? ⟨w.heap.size + 1, 2, none⟩ = some (.slice A hs.length c) := Hcw3.cell 2; have cr0 : w3.cell? ⟨w.heap.size + 1 + 1, 0, none⟩ = some (.int .i64 0) := Hrw3.cell 0; have zr0 : w3.frozen? ⟨w.heap.size + 1 + 1, 0, none⟩ = false := Hrw3.frozen 0; have cr1 : w3.cell? ⟨w.heap.size + 1 + 1, 1, none⟩ = some (.int .i64 0) := Hrw3.cell 1; have zr1 : w3.frozen? ⟨w.heap.size + 1 + 1, 1, none⟩ = false := Hrw3.frozen 1; have cr2 : w3.cell? ⟨w.heap.size + 1 + 1, 2, none⟩ = some (.slice none 0 0) := Hrw3.cell 2; have zr2 : w3.frozen? ⟨w.heap.size + 1 + 1, 2, none⟩ = false := Hrw3.frozen 2; have cr3 : w3.cell? ⟨w.heap.size + 1 + 1, 3, none⟩ = some (.int .i64 0) := Hrw3.cell 3; have zr3 : w3.frozen? ⟨w.heap.size + 1 + 1, 3, none⟩ = false := Hrw3.frozen 3; have cr4 : w3.cell? ⟨w.heap.size + 1 + 1, 4, none⟩ = some (.int .i64 0) := Hrw3.cell 4; have zr4 : w3.frozen? ⟨w.heap.size + 1 + 1, 4, none⟩ = false := Hrw3.frozen 4; have cr5 : w3.cell? ⟨w.heap.size + 1 + 1, 5, none⟩ = some (.slice none 0 0) := Hrw3.cell 5; have zr5 : w3.frozen? ⟨w.heap.size + 1 + 1, 5, none⟩ = false := Hrw3.frozen 5; have cr6 : w3.cell? ⟨w.heap.size + 1 + 1, 6, none⟩ = some (.nilFunc) := Hrw3.cell 6; have zr6 : w3.frozen? ⟨w.heap.size + 1 + 1, 6, none⟩ = false := Hrw3.frozen 6))
 refine ret_cell2 (t := 147) rfl rfl rfl (Hrw3.set7 _ _ _ _ _ _ _) Try.underlying147 rfl (by kernel_rfl) rfl ⟨rfl, zg⟩
attribute [local go_sem] ix4_0 ix4_1 ix4_2 ix4_3 ix8_0 ix8_1 ix8_2 ix8_3 eqlW_span eqlW_box
theorem lets_0 (full empty err miss spot g0 g1 g2 g3 : Int) (hs gs cf : Value) (w : World) (m0 : 0 ≤ miss) (m1 : miss ≤ 20)
  (a0 : 0 ≤ g0) (b0 : g0 ≤ 200) (a1 : 0 ≤ g1) (b1 : g1 ≤ 200) (a2 : 0 ≤ g2) (b2 : g2 ≤ 200) (a3 : 0 ≤ g3) (b3 : g3 ≤ 200) (n0 : 10 ≤ g0 + g1 + g2 + g3) (n1 : g0 + g1 + g2 + g3 ≤ 200) :
  Calls Try.prog 101 #[.agg #[.int .i64 full, .int .i64 empty, hs, .int .i64 err, .int .i64 miss, gs, cf], .agg #[.int .i64 spot, .int .i64 g0, .int .i64 g1, .int .i64 g2, .int .i64 g3], .int .i64 0] w fun e w' => e = .returned (.agg #[.int .i64 (letLo miss (g0 + g1 + g2 + g3) g0), .int .i64 (letHi miss (g0 + g1 + g2 + g3) g0)]) ∧ Below w.heap.size w w' :=
 lets_any full empty err miss spot g0 g1 g2 g3 g0 hs gs cf 0 w m0 m1 a0 b0 a1 b1 a2 b2 a3 b3 n0 n1 (by omega) rfl
theorem lets_1 (full empty err miss spot g0 g1 g2 g3 : Int) (hs gs cf : Value) (w : World) (m0 : 0 ≤ miss) (m1 : miss ≤ 20)
  (a0 : 0 ≤ g0) (b0 : g0 ≤ 200) (a1 : 0 ≤ g1) (b1 : g1 ≤ 200) (a2 : 0 ≤ g2) (b2 : g2 ≤ 200) (a3 : 0 ≤ g3) (b3 : g3 ≤ 200) (n0 : 10 ≤ g0 + g1 + g2 + g3) (n1 : g0 + g1 + g2 + g3 ≤ 200) :
  Calls Try.prog 101 #[.agg #[.int .i64 full, .int .i64 empty, hs, .int .i64 err, .int .i64 miss, gs, cf], .agg #[.int .i64 spot, .int .i64 g0, .int .i64 g1, .int .i64 g2, .int .i64 g3], .int .i64 1] w fun e w' => e = .returned (.agg #[.int .i64 (letLo miss (g0 + g1 + g2 + g3) g1), .int .i64 (letHi miss (g0 + g1 + g2 + g3) g1)]) ∧ Below w.heap.size w w' :=
 lets_any full empty err miss spot g0 g1 g2 g3 g1 hs gs cf 1 w m0 m1 a0 b0 a1 b1 a2 b2 a3 b3 n0 n1 (by omega) rfl
theorem lets_2 (full empty err miss spot g0 g1 g2 g3 : Int) (hs gs cf : Value) (w : World) (m0 : 0 ≤ miss) (m1 : miss ≤ 20)
  (a0 : 0 ≤ g0) (b0 : g0 ≤ 200) (a1 : 0 ≤ g1) (b1 : g1 ≤ 200) (a2 : 0 ≤ g2) (b2 : g2 ≤ 200) (a3 : 0 ≤ g3) (b3 : g3 ≤ 200) (n0 : 10 ≤ g0 + g1 + g2 + g3) (n1 : g0 + g1 + g2 + g3 ≤ 200) :
  Calls Try.prog 101 #[.agg #[.int .i64 full, .int .i64 empty, hs, .int .i64 err, .int .i64 miss, gs, cf], .agg #[.int .i64 spot, .int .i64 g0, .int .i64 g1, .int .i64 g2, .int .i64 g3], .int .i64 2] w fun e w' => e = .returned (.agg #[.int .i64 (letLo miss (g0 + g1 + g2 + g3) g2), .int .i64 (letHi miss (g0 + g1 + g2 + g3) g2)]) ∧ Below w.heap.size w w' :=
 lets_any full empty err miss spot g0 g1 g2 g3 g2 hs gs cf 2 w m0 m1 a0 b0 a1 b1 a2 b2 a3 b3 n0 n1 (by omega) rfl
theorem lets_3 (full empty err miss spot g0 g1 g2 g3 : Int) (hs gs cf : Value) (w : World) (m0 : 0 ≤ miss) (m1 : miss ≤ 20)
  (a0 : 0 ≤ g0) (b0 : g0 ≤ 200) (a1 : 0 ≤ g1) (b1 : g1 ≤ 200) (a2 : 0 ≤ g2) (b2 : g2 ≤ 200) (a3 : 0 ≤ g3) (b3 : g3 ≤ 200) (n0 : 10 ≤ g0 + g1 + g2 + g3) (n1 : g0 + g1 + g2 + g3 ≤ 200) :
  Calls Try.prog 101 #[.agg #[.int .i64 full, .int .i64 empty, hs, .int .i64 err, .int .i64 miss, gs, cf], .agg #[.int .i64 spot, .int .i64 g0, .int .i64 g1, .int .i64 g2, .int .i64 g3], .int .i64 3] w fun e w' => e = .returned (.agg #[.int .i64 (letLo miss (g0 + g1 + g2 + g3) g3), .int .i64 (letHi miss (g0 + g1 + g2 + g3) g3)]) ∧ Below w.heap.size w w' :=
 lets_any full empty err miss spot g0 g1 g2 g3 g3 hs gs cf 3 w m0 m1 a0 b0 a1 b1 a2 b2 a3 b3 n0 n1 (by omega) rfl
set_option maxRecDepth 100000 in
set_option maxHeartbeats 2000000 in
theorem letsAll_any (full empty err miss spot g0 g1 g2 g3 : Int) (hs gs cf : Value) (w : World) (m0 : 0 ≤ miss) (m1 : miss ≤ 20)
  (a0 : 0 ≤ g0) (b0 : g0 ≤ 200) (a1 : 0 ≤ g1) (b1 : g1 ≤ 200) (a2 : 0 ≤ g2) (b2 : g2 ≤ 200) (a3 : 0 ≤ g3) (b3 : g3 ≤ 200) (n0 : 10 ≤ g0 + g1 + g2 + g3) (n1 : g0 + g1 + g2 + g3 ≤ 200) :
  Calls Try.prog 138 #[.agg #[.int .i64 full, .int .i64 empty, hs, .int .i64 err, .int .i64 miss, gs, cf], .agg #[.int .i64 spot, .int .i64 g0, .int .i64 g1, .int .i64 g2, .int .i64 g3]] w fun e w' => e = .returned (.agg #[.int .i64 (letLo miss (g0 + g1 + g2 + g3) g0), .int .i64 (letHi miss (g0 + g1 + g2 + g3) g0), .int .i64 (letLo miss (g0 + g1 + g2 + g3) g1), .int .i64 (letHi miss (g0 + g1 + g2 + g3) g1), .int .i64 (letLo miss (g0 + g1 + g2 + g3) g2), .int .i64 (letHi miss (g0 + g1 + g2 + g3) g2), .int .i64 (letLo miss (g0 + g1 + g2 + g3) g3), .int .i64 (letHi miss (g0 + g1 + g2 + g3) g3)]) ∧ Below w.heap.size w w' := by
 go_enter Try.func138, Try.ntmps138
 go_wp2_with fail
 go_loopw [7] (fun v7 wr => Below w.heap.size w wr ∧ w.heap.size + 4 ≤ wr.heap.size ∧ Holds wr (w.heap.size) 147 #[.int .i64 full, .int .i64 empty, hs, .int .i64 err, .int .i64 miss, gs, cf] ∧ Holds wr (w.heap.size + 1) 30 #[.int .i64 spot, .int .i64 g0, .int .i64 g1, .int .i64 g2, .int .i64 g3] ∧ Holds wr (w.heap.size + 1 + 1) 153 #[.int .i64 0, .int .i64 0, .int .i64 0, .int .i64 0, .int .i64 0, .int .i64 0, .int .i64 0, .int .i64 0] ∧ ((v7 = .int .i64 0 ∧ Holds wr (w.heap.size + 1 + 1 + 1) 153 #[.int .i64 0, .int .i64 0, .int .i64 0, .int .i64 0, .int .i64 0, .int .i64 0, .int .i64 0, .int .i64 0]) ∨ (v7 = .int .i64 1 ∧ Holds wr (w.heap.size + 1 + 1 + 1) 153 #[.int .i64 (letLo miss (g0 + g1 + g2 + g3) g0), .int .i64 (letHi miss (g0 + g1 + g2 + g3) g0), .int .i64 0, .int .i64 0, .int .i64 0, .int .i64 0, .int .i64 0, .int .i64 0]) ∨ (v7 = .int .i64 2 ∧ Holds wr (w.heap.size + 1 + 1 + 1) 153 #[.int .i64 (letLo miss (g0 + g1 + g2 + g3) g0), .int .i64 (letHi miss (g0 + g1 + g2 + g3) g0), .int .i64 (letLo miss (g0 + g1 + g2 + g3) g1), .int .i64 (letHi miss (g0 + g1 + g2 + g3) g1), .int .i64 0, .int .i64 0, .int .i64 0, .int .i64 0]) ∨ (v7 = .int .i64 3 ∧ Holds wr (w.heap.size + 1 + 1 + 1) 153 #[.int .i64 (letLo miss (g0 + g1 + g2 + g3) g0), .int .i64 (letHi miss (g0 + g1 + g2 + g3) g0), .int .i64 (letLo miss (g0 + g1 + g2 + g3) g1), .int .i64 (letHi miss (g0 + g1 + g2 + g3) g1), .int .i64 (letLo miss (g0 + g1 + g2 + g3) g2), .int .i64 (letHi miss (g0 + g1 + g2 + g3) g2), .int .i64 0, .int .i64 0]) ∨ (v7 = .int .i64 4 ∧ Holds wr (w.heap.size + 1 + 1 + 1) 153 #[.int .i64 (letLo miss (g0 + g1 + g2 + g3) g0), .int .i64 (letHi miss (g0 + g1 + g2 + g3) g0), .int .i64 (letLo miss (g0 + g1 + g2 + g3) g1), .int .i64 (letHi miss (g0 + g1 + g2 + g3) g1), .int .i64 (letLo miss (g0 + g1 + g2 + g3) g2), .int .i64 (letHi miss (g0 + g1 + g2 + g3) g2), .int .i64 (letLo miss (g0 + g1 + g2 + g3) g3), .int .i64 (letHi miss (g0 + g1 + g2 + g3) g3)]))) (fun v7 _ => 4 - (intOf v7).toNat)
 case atStart => exact ⟨zg, by simp, zp0, zp0, zp0, .inl ⟨rfl, zp0⟩⟩
 case round =>
  obtain ⟨hB, hS, Hc, Hh, Hr, ⟨rfl, Hn⟩ | ⟨rfl, Hn⟩ | ⟨rfl, Hn⟩ | ⟨rfl, Hn⟩ | ⟨rfl, Hn⟩⟩ := hrel
  ·have cc0 : wr.cell? ⟨w.heap.size, 0, none⟩ = some (.int .i64 full) := Hc.cell 0
   have cc1 : wr.cell? ⟨w.heap.size, 1, none⟩ = some (.int .i64 empty) := Hc.cell 1
   have cc2 : wr.cell? ⟨w.heap.size, 2, none⟩ = some (hs) := Hc.cell 2
   have cc3 : wr.cell? ⟨w.heap.size, 3, none⟩ = some (.int .i64 err) := Hc.cell 3
   have cc4 : wr.cell? ⟨w.heap.size, 4, none⟩ = some (.int .i64 miss) := Hc.cell 4
   have cc5 : wr.cell? ⟨w.heap.size, 5, none⟩ = some (gs) := Hc.cell 5
   have cc6 : wr.cell? ⟨w.heap.size, 6, none⟩ = some (cf) := Hc.cell 6
   obtain ⟨ch0, ch1, ch2, ch3, ch4⟩ := Hh.c5
   go_wp2_with (go_at_call 101; refine (lets_0 full empty err miss spot g0 g1 g2 g3 hs gs cf _ m0 m1 a0 b0 a1 b1 a2 b2 a3 b3 n0 n1).mono ?_; rintro e w2 ⟨rfl, hb2⟩; have Hc2 := Hc.up hb2; have Hh2 := Hh.up hb2; have Hr2 := Hr.up hb2; have Hn2 := Hn.up hb2; have hB2 : Below w.heap.size w w2 := hB.trans (hb2.mono (by omega)); have hs2 := hb2.size; clear hb2 Hc Hh Hr Hn; have cn0 : w2.cell? ⟨w.heap.size + 1 + 1 + 1, 0, none⟩ = some (.int .i64 0) := Hn2.cell 0; have cn1 : w2.cell? ⟨w.heap.size + 1 + 1 + 1, 1, none⟩ = some (.int .i64 0) := Hn2.cell 1; have zn0 : w2.frozen? ⟨w.heap.size + 1 + 1 + 1, 0, none⟩ = false := Hn2.frozen 0; have zn1 : w2.frozen? ⟨w.heap.size + 1 + 1 + 1, 1, none⟩ = false := Hn2.frozen 1)
   go_roundw
   case rel => exact ⟨zg, by simp; omega, zp0, zp0, zp0, .inr (.inl ⟨rfl, zp0⟩)⟩
   case measure => simp [intOf]
  ·have cc0 : wr.cell? ⟨w.heap.size, 0, none⟩ = some (.int .i64 full) := Hc.cell 0
   have cc1 : wr.cell? ⟨w.heap.size, 1, none⟩ = some (.int .i64 empty) := Hc.cell 1
   have cc2 : wr.cell? ⟨w.heap.size, 2, none⟩ = some (hs) := Hc.cell 2
   have cc3 : wr.cell? ⟨w.heap.size, 3, none⟩ = some (.int .i64 err) := Hc.cell 3
   have cc4 : wr.cell? ⟨w.heap.size, 4, none⟩ = some (.int .i64 miss) := Hc.cell 4
   have cc5 : wr.cell? ⟨w.heap.size, 5, none⟩ = some (gs) := Hc.cell 5
   have cc6 : wr.cell? ⟨w.heap.size, 6, none⟩ = some (cf) := Hc.cell 6
   obtain ⟨ch0, ch1, ch2, ch3, ch4⟩ := Hh.c5
   go_wp2_with (go_at_call 101; refine (lets_1 full empty err miss spot g0 g1 g2 g3 hs gs cf _ m0 m1 a0 b0 a1 b1 a2 b2 a3 b3 n0 n1).mono ?_; rintro e w2 ⟨rfl, hb2⟩; have Hc2 := Hc.up hb2; have Hh2 := Hh.up hb2; have Hr2 := Hr.up hb2; have Hn2 := Hn.up hb2; have hB2 : Below w.heap.size w w2 := hB.trans (hb2.mono (by omega)); have hs2 := hb2.size; clear hb2 Hc Hh Hr Hn; have cn2 : w2.cell? ⟨w.heap.size + 1 + 1 + 1, 2, none⟩ = some (.int .i64 0) := Hn2.cell 2; have cn3 : w2.cell? ⟨w.heap.size + 1 + 1 + 1, 3, none⟩ = some (.int .i64 0) := Hn2.cell 3; have zn2 : w2.frozen? ⟨w.heap.size + 1 + 1 + 1, 2, none⟩ = false := Hn2.frozen 2; have zn3 : w2.frozen? ⟨w.heap.size + 1 + 1 + 1, 3, none⟩ = false := Hn2.frozen 3)
   go_roundw
   case rel => exact ⟨zg, by simp; omega, zp0, zp0, zp0, .inr (.inr (.inl ⟨rfl, zp0⟩))⟩
   case measure => simp [intOf]
  ·have cc0 : wr.cell? ⟨w.heap.size, 0, none⟩ = some (.int .i64 full) := Hc.cell 0
   have cc1 : wr.cell? ⟨w.heap.size, 1, none⟩ = some (.int .i64 empty) := Hc.cell 1
   have cc2 : wr.cell? ⟨w.heap.size, 2, none⟩ = some (hs) := Hc.cell 2
   have cc3 : wr.cell? ⟨w.heap.size, 3, none⟩ = some (.int .i64 err) := Hc.cell 3
   have cc4 : wr.cell? ⟨w.heap.size, 4, none⟩ = some (.int .i64 miss) := Hc.cell 4
   have cc5 : wr.cell? ⟨w.heap.size, 5, none⟩ = some (gs) := Hc.cell 5
   have cc6 : wr.cell? ⟨w.heap.size, 6, none⟩ = some (cf) := Hc.cell 6
   obtain ⟨ch0, ch1, ch2, ch3, ch4⟩ := Hh.c5
   go_wp2_with (go_at_call 101; refine (lets_2 full empty err miss spot g0 g1 g2 g3 hs gs cf _ m0 m1 a0 b0 a1 b1 a2 b2 a3 b3 n0 n1).mono ?_; rintro e w2 ⟨rfl, hb2⟩; have Hc2 := Hc.up hb2; have Hh2 := Hh.up hb2; have Hr2 := Hr.up hb2; have Hn2 := Hn.up hb2; have hB2 : Below w.heap.size w w2 := hB.trans (hb2.mono (by omega)); have hs2 := hb2.size; clear hb2 Hc Hh Hr Hn; have cn4 : w2.cell? ⟨w.heap.size + 1 + 1 + 1, 4, none⟩ = some (.int .i64 0) := Hn2.cell 4; have cn5 : w2.cell? ⟨w.heap.size + 1 + 1 + 1, 5, none⟩ = some (.int .i64 0) := Hn2.cell 5; have zn4 : w2.frozen? ⟨w.heap.size + 1 + 1 + 1, 4, none⟩ = false := Hn2.frozen 4; have zn5 : w2.frozen? ⟨w.heap.size + 1 + 1 + 1, 5, none⟩ = false := Hn2.frozen 5)
   go_roundw
   case rel => exact ⟨zg, by simp; omega, zp0, zp0, zp0, .inr (.inr (.inr (.inl ⟨rfl, zp0⟩)))⟩
   case measure => simp [intOf]
  ·have cc0 : wr.cell? ⟨w.heap.size, 0, none⟩ = some (.int .i64 full) := Hc.cell 0
   have cc1 : wr.cell? ⟨w.heap.size, 1, none⟩ = some (.int .i64 empty) := Hc.cell 1
   have cc2 : wr.cell? ⟨w.heap.size, 2, none⟩ = some (hs) := Hc.cell 2
   have cc3 : wr.cell? ⟨w.heap.size, 3, none⟩ = some (.int .i64 err) := Hc.cell 3
   have cc4 : wr.cell? ⟨w.heap.size, 4, none⟩ = some (.int .i64 miss) := Hc.cell 4
   have cc5 : wr.cell? ⟨w.heap.size, 5, none⟩ = some (gs) := Hc.cell 5
   have cc6 : wr.cell? ⟨w.heap.size, 6, none⟩ = some (cf) := Hc.cell 6
   obtain ⟨ch0, ch1, ch2, ch3, ch4⟩ := Hh.c5
   go_wp2_with (go_at_call 101; refine (lets_3 full empty err miss spot g0 g1 g2 g3 hs gs cf _ m0 m1 a0 b0 a1 b1 a2 b2 a3 b3 n0 n1).mono ?_; rintro e w2 ⟨rfl, hb2⟩; have Hc2 := Hc.up hb2; have Hh2 := Hh.up hb2; have Hr2 := Hr.up hb2; have Hn2 := Hn.up hb2; have hB2 : Below w.heap.size w w2 := hB.trans (hb2.mono (by omega)); have hs2 := hb2.size; clear hb2 Hc Hh Hr Hn; have cn6 : w2.cell? ⟨w.heap.size + 1 + 1 + 1, 6, none⟩ = some (.int .i64 0) := Hn2.cell 6; have cn7 : w2.cell? ⟨w.heap.size + 1 + 1 + 1, 7, none⟩ = some (.int .i64 0) := Hn2.cell 7; have zn6 : w2.frozen? ⟨w.heap.size + 1 + 1 + 1, 6, none⟩ = false := Hn2.frozen 6; have zn7 : w2.frozen? ⟨w.heap.size + 1 + 1 + 1, 7, none⟩ = false := Hn2.frozen 7)
   go_roundw
   case rel => exact ⟨zg, by simp; omega, zp0, zp0, zp0, .inr (.inr (.inr (.inr (⟨rfl, zp0⟩))))⟩
   case measure => simp [intOf]
  ·have cn0 : wr.cell? ⟨w.heap.size + 1 + 1 + 1, 0, none⟩ = some (.int .i64 (letLo miss (g0 + g1 + g2 + g3) g0)) := Hn.cell 0
   have cn1 : wr.cell? ⟨w.heap.size + 1 + 1 + 1, 1, none⟩ = some (.int .i64 (letHi miss (g0 + g1 + g2 + g3) g0)) := Hn.cell 1
   have cn2 : wr.cell? ⟨w.heap.size + 1 + 1 + 1, 2, none⟩ = some (.int .i64 (letLo miss (g0 + g1 + g2 + g3) g1)) := Hn.cell 2
   have cn3 : wr.cell? ⟨w.heap.size + 1 + 1 + 1, 3, none⟩ = some (.int .i64 (letHi miss (g0 + g1 + g2 + g3) g1)) := Hn.cell 3
   have cn4 : wr.cell? ⟨w.heap.size + 1 + 1 + 1, 4, none⟩ = some (.int .i64 (letLo miss (g0 + g1 + g2 + g3) g2)) := Hn.cell 4
   have cn5 : wr.cell? ⟨w.heap.size + 1 + 1 + 1, 5, none⟩ = some (.int .i64 (letHi miss (g0 + g1 + g2 + g3) g2)) := Hn.cell 5
   have cn6 : wr.cell? ⟨w.heap.size + 1 + 1 + 1, 6, none⟩ = some (.int .i64 (letLo miss (g0 + g1 + g2 + g3) g3)) := Hn.cell 6
   have cn7 : wr.cell? ⟨w.heap.size + 1 + 1 + 1, 7, none⟩ = some (.int .i64 (letHi miss (g0 + g1 + g2 + g3) g3)) := Hn.cell 7
   obtain ⟨cr0, cr1, cr2, cr3, cr4, cr5, cr6, cr7⟩ := Hr.c8
   obtain ⟨zr0, zr1, zr2, zr3, zr4, zr5, zr6, zr7⟩ := Hr.f8
   go_wp2_with fail
   refine ret_cell (t := 153) rfl rfl ?_ Try.underlying153 rfl (by kernel_rfl) rfl ⟨rfl, zg⟩
   exact Hr.set8 _ _ _ _ _ _ _ _
end Go.Proofs.Ytdpgfaikmahmpaa
