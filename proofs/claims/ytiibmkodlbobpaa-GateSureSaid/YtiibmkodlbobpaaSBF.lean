
import Derived.Test.YtiibmkodlbobpaaQAA
import Derived.Test.YtiibmkodlbobpaaSAC
import Derived.Test.YtiibmkodlbobpaaSBE
set_option linter.unusedSimpArgs false
set_option linter.unusedVariables false
namespace Go.Proofs.Ytiibmkodlbobpaa
open Go.RowKit
theorem ints_at {w : World} {B c : Nat} {A : Option Addr} {xs : List Int} (h : OwnInts w B (.slice A xs.length c) xs) : IntsAt w A xs := by
 obtain ⟨A', c', e, h'⟩ := ints_of_row h
 injection e with e1 _ _
 subst e1
 exact h'
def priceOf (gs : List Gr) (n : Int) : Int := if n = -1 then 0 else ((gs[n.toNat]?).map Gr.price).getD 0
theorem price_none (err miss : Int) (G : Option Addr) (d : Nat) (gs : List Gr) (w : World) :
  Calls Try.prog 122 #[.agg #[.int .i64 err, .int .i64 miss, .slice G gs.length d], .int .i64 (-1)] w fun e w' => e = .returned (.int .i64 (priceOf gs (-1))) ∧ Below w.heap.size w w' := by
 go_enter Try.func122, Try.ntmps122
 go_wp2_with fail
 go_ret
 exact ⟨rfl, by (repeat' (first | (with_reducible first | exact Below.refl _ _ | assumption | refine Below.alloc ?_ ?_ _ | refine Below.drew ?_ | refine Below.setCell ?_ ?_ _ | exact Nat.le_refl _) | omega | (simp only [World.size_alloc, World.size_setCell, World.size_drew]; omega) | (simp; omega) | (simp; done)))⟩
theorem price_at (err miss : Int) (G : Option Addr) (d : Nat) (gs : List Gr) (i : Nat) (w : World) (hG : GradesAt w G gs) (hi : i < gs.length) (hl : gs.length ≤ 1000) :
  Calls Try.prog 122 #[.agg #[.int .i64 err, .int .i64 miss, .slice G gs.length d], .int .i64 (i : Int)] w fun e w' => e = .returned (.int .i64 (priceOf gs (i : Int))) ∧ Below w.heap.size w w' := by
 obtain ⟨B, o, rfl, h⟩ := hG (by omega)
 obtain ⟨_, _, _, _, h4⟩ := h i gs[i] (by simp [hi])
 have hBl : B < w.heap.size := World.block_lt_of_cell? w _ h4
 have hp : priceOf gs (i : Int) = gs[i].price := by
  unfold priceOf
  rw [if_neg (by omega)]
  simp [hi]
 have HP := Lib.hid hp
 have hne : ((i : Int) == -1) = false := by first | (simp; done) | (simp; omega)
 clear h hp
 go_enter Try.func122, Try.ntmps122
 go_wp2_with fail
 go_ret
 exact ⟨by rw [HP.out]; rfl, by (repeat' (first | (with_reducible first | exact Below.refl _ _ | assumption | refine Below.alloc ?_ ?_ _ | refine Below.drew ?_ | refine Below.setCell ?_ ?_ _ | exact Nat.le_refl _) | omega | (simp only [World.size_alloc, World.size_setCell, World.size_drew]; omega) | (simp; omega) | (simp; done)))⟩
theorem price_any (err miss : Int) (G : Option Addr) (d : Nat) (gs : List Gr) (n : Int) (w : World) (hG : GradesAt w G gs) (hl : gs.length ≤ 1000) (hn : n = -1 ∨ (0 ≤ n ∧ n < gs.length)) :
  Calls Try.prog 122 #[.agg #[.int .i64 err, .int .i64 miss, .slice G gs.length d], .int .i64 n] w fun e w' => e = .returned (.int .i64 (priceOf gs n)) ∧ Below w.heap.size w w' := by
 rcases hn with rfl | ⟨h0, h1⟩
 ·exact price_none err miss G d gs w
 ·have h := price_at err miss G d gs n.toNat w hG (by omega) hl
  rwa [show ((n.toNat : Nat) : Int) = n from by omega] at h
def CanRes (miss : Int) (gs : List Gr) (hs : List Hf) (w : World) (e : Ending) (w' : World) : Prop := ∃ v, e = .returned (.tuple #[v, .int .i64 0]) ∧ OwnInts w' w.heap.size v (canOf (boundsOf miss (fun _ => true) hs) gs) ∧ Below w.heap.size w w'
set_option maxRecDepth 100000 in
set_option maxHeartbeats 2000000 in
theorem Can_ok (err miss full empty : Int) (G A : Option Addr) (d c : Nat) (gs : List Gr) (hs : List Hf) (w : World) (hG : GradesAt w G gs) (hgl : gs.length ≤ 1000) (hgd : gs.length ≤ d) (hA : HandsAt w A hs) (hl : hs.length ≤ 1000) (he : bothErr err miss gs full empty hs = 0) (hx : (boundsOf miss (fun _ => true) hs).empty = false) :
  Calls Try.prog 58 #[.agg #[.int .i64 err, .int .i64 miss, .slice G gs.length d], .agg #[.int .i64 full, .int .i64 empty, .slice A hs.length c]] w (CanRes miss gs hs w) := by
 have HA := Lib.hid hA
 have HG := Lib.hid hG
 clear hA hG
 obtain ⟨hg0, hc0⟩ := bothErr_zero he
 obtain ⟨hg4, r0, r1, m0, m1, hgr, _⟩ := gateErr_zero hg0
 obtain ⟨hl6, f0, f1, e0, e1, ht, hn⟩ := cartErr_zero hc0
 have HE := Lib.hid he
 have HX := Lib.hid hx
 have HT := Lib.hid ht
 have HN := Lib.hid hn
 have HR := Lib.hid hgr
 clear he hg0 hc0 ht hn hgr hx
 go_enter Try.func58, Try.ntmps58
 go_wp2_with (first | (go_at_call 107; refine (arriveFitting_ok err miss full empty G A d c gs hs _ (HG.out.up (by (repeat' (first | (with_reducible first | exact Below.refl _ _ | assumption | refine Below.alloc ?_ ?_ _ | refine Below.drew ?_ | refine Below.setCell ?_ ?_ _ | exact Nat.le_refl _) | omega | (simp only [World.size_alloc, World.size_setCell, World.size_drew]; omega) | (simp; omega) | (simp; done))))) hgl (HA.out.up (by (repeat' (first | (with_reducible first | exact Below.refl _ _ | assumption | refine Below.alloc ?_ ?_ _ | refine Below.drew ?_ | refine Below.setCell ?_ ?_ _ | exact Nat.le_refl _) | omega | (simp only [World.size_alloc, World.size_setCell, World.size_drew]; omega) | (simp; omega) | (simp; done))))) hl HE.out HX.out).mono ?_; rintro e w2 ⟨rfl, hb2⟩; have hB2 : Below w.heap.size w w2 := Below.trans (by (repeat' (first | (with_reducible first | exact Below.refl _ _ | assumption | refine Below.alloc ?_ ?_ _ | refine Below.drew ?_ | refine Below.setCell ?_ ?_ _ | exact Nat.le_refl _) | omega | (simp only [World.size_alloc, World.size_setCell, World.size_drew]; omega) | (simp; omega) | (simp; done)))) (hb2.mono (by first | omega | (simp; done) | (simp; omega))); have hs2 := hb2.size; (try simp only [World.size_alloc] at hs2); clear hb2) | (go_at_call 120; refine (can_any err miss full empty G A d c gs hs _ (HG.out.up (by (repeat' (first | (with_reducible first | exact Below.refl _ _ | assumption | refine Below.alloc ?_ ?_ _ | refine Below.drew ?_ | refine Below.setCell ?_ ?_ _ | exact Nat.le_refl _) | omega | (simp only [World.size_alloc, World.size_setCell, World.size_drew]; omega) | (simp; omega) | (simp; done))))) hg4 hgd HR.out (HA.out.up (by (repeat' (first | (with_reducible first | exact Below.refl _ _ | assumption | refine Below.alloc ?_ ?_ _ | refine Below.drew ?_ | refine Below.setCell ?_ ?_ _ | exact Nat.le_refl _) | omega | (simp only [World.size_alloc, World.size_setCell, World.size_drew]; omega) | (simp; omega) | (simp; done))))) hl6 m0 m1 HT.out HN.out).mono ?_; rintro e w3 ⟨v3, rfl, ho3, hb3⟩; obtain ⟨A3, c3, e3⟩ := row_val ho3; have HO3 := Lib.hid ho3; subst e3; have hB3 : Below w.heap.size w w3 := Below.trans (by (repeat' (first | (with_reducible first | exact Below.refl _ _ | assumption | refine Below.alloc ?_ ?_ _ | refine Below.drew ?_ | refine Below.setCell ?_ ?_ _ | exact Nat.le_refl _) | omega | (simp only [World.size_alloc, World.size_setCell, World.size_drew]; omega) | (simp; omega) | (simp; done)))) (hb3.mono (by first | omega | (simp; done) | (simp; omega))); have hs3 := hb3.size; clear ho3))
 go_ret2
 exact ⟨_, rfl, HO3.out.mono (by first | omega | (simp; omega)), hB3⟩
def sureOf (l : List Int) : Int := if l.length = 1 then l.headD 0 else 0
def sureErr (l : List Int) : Int := if l.length = 1 then 0 else 6
set_option maxRecDepth 100000 in
set_option maxHeartbeats 2000000 in
theorem Sure_ok (err miss full empty : Int) (G A : Option Addr) (d c : Nat) (gs : List Gr) (hs : List Hf) (w : World) (hG : GradesAt w G gs) (hgl : gs.length ≤ 1000) (hgd : gs.length ≤ d) (hA : HandsAt w A hs) (hl : hs.length ≤ 1000) (he : bothErr err miss gs full empty hs = 0) (hx : (boundsOf miss (fun _ => true) hs).empty = false) :
  Calls Try.prog 59 #[.agg #[.int .i64 err, .int .i64 miss, .slice G gs.length d], .agg #[.int .i64 full, .int .i64 empty, .slice A hs.length c]] w fun e w' => e = .returned (.tuple #[.int .i64 (sureOf (canOf (boundsOf miss (fun _ => true) hs) gs)), .int .i64 (sureErr (canOf (boundsOf miss (fun _ => true) hs) gs))]) ∧ Below w.heap.size w w' := by
 have HA := Lib.hid hA
 have HG := Lib.hid hG
 clear hA hG
 obtain ⟨hg0, hc0⟩ := bothErr_zero he
 obtain ⟨hg4, r0, r1, m0, m1, hgr, _⟩ := gateErr_zero hg0
 obtain ⟨hl6, f0, f1, e0, e1, ht, hn⟩ := cartErr_zero hc0
 have HE := Lib.hid he
 have HX := Lib.hid hx
 have HT := Lib.hid ht
 have HN := Lib.hid hn
 have HR := Lib.hid hgr
 clear he hg0 hc0 ht hn hgr hx
 go_enter Try.func59, Try.ntmps59
 cases hl1 : ((canOf (boundsOf miss (fun _ => true) hs) gs).length : Int) != 1 with
 | true =>
  have hle : ¬ (canOf (boundsOf miss (fun _ => true) hs) gs).length = 1 := by simp at hl1; omega
  have HL := Lib.hid hle
  clear hle
  go_wp2_with (first | (go_at_call 107; refine (arriveFitting_ok err miss full empty G A d c gs hs _ (HG.out.up (by (repeat' (first | (with_reducible first | exact Below.refl _ _ | assumption | refine Below.alloc ?_ ?_ _ | refine Below.drew ?_ | refine Below.setCell ?_ ?_ _ | exact Nat.le_refl _) | omega | (simp only [World.size_alloc, World.size_setCell, World.size_drew]; omega) | (simp; omega) | (simp; done))))) hgl (HA.out.up (by (repeat' (first | (with_reducible first | exact Below.refl _ _ | assumption | refine Below.alloc ?_ ?_ _ | refine Below.drew ?_ | refine Below.setCell ?_ ?_ _ | exact Nat.le_refl _) | omega | (simp only [World.size_alloc, World.size_setCell, World.size_drew]; omega) | (simp; omega) | (simp; done))))) hl HE.out HX.out).mono ?_; rintro e w2 ⟨rfl, hb2⟩; have hB2 : Below w.heap.size w w2 := Below.trans (by (repeat' (first | (with_reducible first | exact Below.refl _ _ | assumption | refine Below.alloc ?_ ?_ _ | refine Below.drew ?_ | refine Below.setCell ?_ ?_ _ | exact Nat.le_refl _) | omega | (simp only [World.size_alloc, World.size_setCell, World.size_drew]; omega) | (simp; omega) | (simp; done)))) (hb2.mono (by first | omega | (simp; done) | (simp; omega))); have hs2 := hb2.size; (try simp only [World.size_alloc] at hs2); clear hb2) | (go_at_call 120; refine (can_any err miss full empty G A d c gs hs _ (HG.out.up (by (repeat' (first | (with_reducible first | exact Below.refl _ _ | assumption | refine Below.alloc ?_ ?_ _ | refine Below.drew ?_ | refine Below.setCell ?_ ?_ _ | exact Nat.le_refl _) | omega | (simp only [World.size_alloc, World.size_setCell, World.size_drew]; omega) | (simp; omega) | (simp; done))))) hg4 hgd HR.out (HA.out.up (by (repeat' (first | (with_reducible first | exact Below.refl _ _ | assumption | refine Below.alloc ?_ ?_ _ | refine Below.drew ?_ | refine Below.setCell ?_ ?_ _ | exact Nat.le_refl _) | omega | (simp only [World.size_alloc, World.size_setCell, World.size_drew]; omega) | (simp; omega) | (simp; done))))) hl6 m0 m1 HT.out HN.out).mono ?_; rintro e w3 ⟨v3, rfl, ho3, hb3⟩; obtain ⟨A3, c3, e3⟩ := row_val ho3; have HO3 := Lib.hid ho3; subst e3; have hB3 : Below w.heap.size w w3 := Below.trans (by (repeat' (first | (with_reducible first | exact Below.refl _ _ | assumption | refine Below.alloc ?_ ?_ _ | refine Below.drew ?_ | refine Below.setCell ?_ ?_ _ | exact Nat.le_refl _) | omega | (simp only [World.size_alloc, World.size_setCell, World.size_drew]; omega) | (simp; omega) | (simp; done)))) (hb3.mono (by first | omega | (simp; done) | (simp; omega))); have hs3 := hb3.size; clear ho3))
  go_ret2
  exact ⟨by simp only [sureOf, sureErr, if_neg HL.out]; rfl, hB3⟩
 | false =>
  have hle : (canOf (boundsOf miss (fun _ => true) hs) gs).length = 1 := by simp at hl1; omega
  obtain ⟨y, hy⟩ := List.length_eq_one_iff.1 hle
  have HY := Lib.hid hy
  have h0l : 0 < (canOf (boundsOf miss (fun _ => true) hs) gs).length := by omega
  have HL := Lib.hid hle
  clear hle hy
  go_wp2_with (first | (go_at_call 107; refine (arriveFitting_ok err miss full empty G A d c gs hs _ (HG.out.up (by (repeat' (first | (with_reducible first | exact Below.refl _ _ | assumption | refine Below.alloc ?_ ?_ _ | refine Below.drew ?_ | refine Below.setCell ?_ ?_ _ | exact Nat.le_refl _) | omega | (simp only [World.size_alloc, World.size_setCell, World.size_drew]; omega) | (simp; omega) | (simp; done))))) hgl (HA.out.up (by (repeat' (first | (with_reducible first | exact Below.refl _ _ | assumption | refine Below.alloc ?_ ?_ _ | refine Below.drew ?_ | refine Below.setCell ?_ ?_ _ | exact Nat.le_refl _) | omega | (simp only [World.size_alloc, World.size_setCell, World.size_drew]; omega) | (simp; omega) | (simp; done))))) hl HE.out HX.out).mono ?_; rintro e w2 ⟨rfl, hb2⟩; have hB2 : Below w.heap.size w w2 := Below.trans (by (repeat' (first | (with_reducible first | exact Below.refl _ _ | assumption | refine Below.alloc ?_ ?_ _ | refine Below.drew ?_ | refine Below.setCell ?_ ?_ _ | exact Nat.le_refl _) | omega | (simp only [World.size_alloc, World.size_setCell, World.size_drew]; omega) | (simp; omega) | (simp; done)))) (hb2.mono (by first | omega | (simp; done) | (simp; omega))); have hs2 := hb2.size; (try simp only [World.size_alloc] at hs2); clear hb2) | (go_at_call 120; refine (can_any err miss full empty G A d c gs hs _ (HG.out.up (by (repeat' (first | (with_reducible first | exact Below.refl _ _ | assumption | refine Below.alloc ?_ ?_ _ | refine Below.drew ?_ | refine Below.setCell ?_ ?_ _ | exact Nat.le_refl _) | omega | (simp only [World.size_alloc, World.size_setCell, World.size_drew]; omega) | (simp; omega) | (simp; done))))) hg4 hgd HR.out (HA.out.up (by (repeat' (first | (with_reducible first | exact Below.refl _ _ | assumption | refine Below.alloc ?_ ?_ _ | refine Below.drew ?_ | refine Below.setCell ?_ ?_ _ | exact Nat.le_refl _) | omega | (simp only [World.size_alloc, World.size_setCell, World.size_drew]; omega) | (simp; omega) | (simp; done))))) hl6 m0 m1 HT.out HN.out).mono ?_; rintro e w3 ⟨v3, rfl, ho3, hb3⟩; obtain ⟨A3, c3, e3⟩ := row_val ho3; have HO3 := Lib.hid ho3; subst e3; have hB3 : Below w.heap.size w w3 := Below.trans (by (repeat' (first | (with_reducible first | exact Below.refl _ _ | assumption | refine Below.alloc ?_ ?_ _ | refine Below.drew ?_ | refine Below.setCell ?_ ?_ _ | exact Nat.le_refl _) | omega | (simp only [World.size_alloc, World.size_setCell, World.size_drew]; omega) | (simp; omega) | (simp; done)))) (hb3.mono (by first | omega | (simp; done) | (simp; omega))); have hs3 := hb3.size; clear ho3; obtain ⟨B3, o3, rfl, hcl3⟩ := (show IntsAt w3 A3 (canOf (boundsOf miss (fun _ => true) hs) gs) from ints_at HO3.out) h0l; have hc3 : w3.cell? ⟨B3, o3, none⟩ = some (.int .i64 y) := (by have := hcl3 0 y (by rw [HY.out]; rfl); simpa using this); clear hcl3))
  go_ret2
  exact ⟨by simp only [sureOf, sureErr, if_pos HL.out]; rw [HY.out]; rfl, hB3⟩
end Go.Proofs.Ytiibmkodlbobpaa
