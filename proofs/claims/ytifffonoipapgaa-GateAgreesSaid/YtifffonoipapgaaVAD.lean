
import Derived.Test.YtifffonoipapgaaVAA
import Derived.Test.YtifffonoipapgaaVAC
set_option linter.unusedSimpArgs false
set_option linter.unusedVariables false
namespace Go.Proofs.Ytifffonoipapgaa
open Go.RowKit
def HandsAt (w : World) (A : Option Addr) (hs : List Hf) : Prop :=
 0 < hs.length → ∃ B o, A = some ⟨B, o, none⟩ ∧ ∀ k h, hs[k]? = some h → w.cell? ⟨B, o + k * 5, none⟩ = some (.int .i64 h.spot) ∧ w.cell? ⟨B, o + k * 5 + 1, none⟩ = some (.int .i64 h.g0) ∧
  w.cell? ⟨B, o + k * 5 + 2, none⟩ = some (.int .i64 h.g1) ∧ w.cell? ⟨B, o + k * 5 + 3, none⟩ = some (.int .i64 h.g2) ∧ w.cell? ⟨B, o + k * 5 + 4, none⟩ = some (.int .i64 h.g3)
theorem HandsAt.up {w w' : World} {A : Option Addr} {hs : List Hf} (h : HandsAt w A hs) (hb : Below w.heap.size w w') : HandsAt w' A hs := fun hn => by
 obtain ⟨B, o, e, hc⟩ := h hn
 exact ⟨B, o, e, fun k x hx => by
  obtain ⟨h0, h1, h2, h3, h4⟩ := hc k x hx
  exact ⟨up_cell hb h0, up_cell hb h1, up_cell hb h2, up_cell hb h3, up_cell hb h4⟩⟩
set_option maxRecDepth 100000 in
set_option maxHeartbeats 1000000 in
theorem everyHand_any (F : FuncId) (p : Hf → Bool) (hs : List Hf) (hcf : ∀ (args : Array Value) (w : World), (callFunc F args).run Try.prog w = .ok (.enter F args) w) (hF : ∀ h ∈ hs, ∀ w : World, Calls Try.prog F #[.agg #[.int .i64 h.spot, .int .i64 h.g0, .int .i64 h.g1, .int .i64 h.g2, .int .i64 h.g3]] w fun e w' => e = .returned (.bool (p h)) ∧ Below w.heap.size w w')
  (A : Option Addr) (c : Nat) (w : World) (hA : HandsAt w A hs) (hl : hs.length ≤ 1000) :
  Calls Try.prog 88 #[.slice A hs.length c, .func (.func F) #[] #[]] w fun e w' => e = .returned (.bool (hs.all p)) ∧ Below w.heap.size w w' := by
 have HF := Lib.hid hF
 have HA := Lib.hid hA
 clear hF hA
 go_enter Try.func88, Try.ntmps88
 go_wp2_with fail
 go_loopw [9] (fun v9 wr => ∃ k : Nat, k ≤ hs.length ∧ v9 = .int .i64 k ∧ Hid (hs.all p = (hs.drop k).all p) ∧ Below w.heap.size w wr) (fun v9 _ => hs.length - (intOf v9).toNat)
 case atStart => exact ⟨0, Nat.zero_le _, rfl, rfl, Below.refl _ _⟩
 case round =>
  obtain ⟨k, hk, rfl, hp, hB⟩ := hrel
  by_cases hlt : k < hs.length
  ·have hx : hs[k]? = some hs[k] := List.getElem?_eq_getElem hlt
   obtain ⟨B, o, rfl, hc⟩ := (HA.out.up hB) (by omega)
   obtain ⟨c0, c1, c2, c3, c4⟩ := hc k _ hx
   clear hc
   have HX := Lib.hid hx
   clear hx
   have hS := hB.size
   cases hq : p hs[k] with
   | true =>
    go_wp2_with ((with_reducible refine Calls.mono (HF.out _ (List.getElem_mem hlt) _) ?_); rintro e w2 ⟨rfl, hb2⟩; have hB2 : Below w.heap.size w w2 := Below.trans zg (hb2.mono (by first | omega | (simp; omega))))
    go_roundw
    case rel => exact ⟨k + 1, hlt, by go_num, by rw [hp.out, List.drop_eq_getElem_cons hlt, List.all_cons, hq, Bool.true_and]; exact rfl, hB2⟩
    case measure => simp [intOf]; omega
   | false =>
    go_wp2_with ((with_reducible refine Calls.mono (HF.out _ (List.getElem_mem hlt) _) ?_); rintro e w2 ⟨rfl, hb2⟩; have hB2 : Below w.heap.size w w2 := Below.trans zg (hb2.mono (by first | omega | (simp; omega))))
    go_ret
    have hfin : hs.all p = false := by rw [hp.out, List.drop_eq_getElem_cons hlt, List.all_cons, hq, Bool.false_and]
    exact ⟨by rw [hfin]; rfl, hB2⟩
  ·have hkl : k = hs.length := by omega
   go_wp2_with fail
   go_ret
   have hfin : hs.all p = true := by rw [hp.out, hkl, List.drop_length]; rfl
   exact ⟨by rw [hfin]; rfl, hB⟩
def GradesAt (w : World) (A : Option Addr) (gs : List Gr) : Prop :=
 0 < gs.length → ∃ B o, A = some ⟨B, o, none⟩ ∧ ∀ k h, gs[k]? = some h → w.cell? ⟨B, o + k * 5, none⟩ = some (.int .i64 h.corn) ∧ w.cell? ⟨B, o + k * 5 + 1, none⟩ = some (.int .i64 h.chaff) ∧
  w.cell? ⟨B, o + k * 5 + 2, none⟩ = some (.int .i64 h.stones) ∧ w.cell? ⟨B, o + k * 5 + 3, none⟩ = some (.int .i64 h.damp) ∧ w.cell? ⟨B, o + k * 5 + 4, none⟩ = some (.int .i64 h.price)
theorem GradesAt.up {w w' : World} {A : Option Addr} {gs : List Gr} (h : GradesAt w A gs) (hb : Below w.heap.size w w') : GradesAt w' A gs := fun hn => by
 obtain ⟨B, o, e, hc⟩ := h hn
 exact ⟨B, o, e, fun k x hx => by
  obtain ⟨h0, h1, h2, h3, h4⟩ := hc k x hx
  exact ⟨up_cell hb h0, up_cell hb h1, up_cell hb h2, up_cell hb h3, up_cell hb h4⟩⟩
set_option maxRecDepth 100000 in
set_option maxHeartbeats 1000000 in
theorem everyGrade_any (F : FuncId) (p : Gr → Bool) (gs : List Gr) (hcf : ∀ (args : Array Value) (w : World), (callFunc F args).run Try.prog w = .ok (.enter F args) w) (hF : ∀ h ∈ gs, ∀ w : World, Calls Try.prog F #[.agg #[.int .i64 h.corn, .int .i64 h.chaff, .int .i64 h.stones, .int .i64 h.damp, .int .i64 h.price]] w fun e w' => e = .returned (.bool (p h)) ∧ Below w.heap.size w w')
  (A : Option Addr) (c : Nat) (w : World) (hA : GradesAt w A gs) (hl : gs.length ≤ 1000) :
  Calls Try.prog 83 #[.slice A gs.length c, .func (.func F) #[] #[]] w fun e w' => e = .returned (.bool (gs.all p)) ∧ Below w.heap.size w w' := by
 have HF := Lib.hid hF
 have HA := Lib.hid hA
 clear hF hA
 go_enter Try.func83, Try.ntmps83
 go_wp2_with fail
 go_loopw [9] (fun v9 wr => ∃ k : Nat, k ≤ gs.length ∧ v9 = .int .i64 k ∧ Hid (gs.all p = (gs.drop k).all p) ∧ Below w.heap.size w wr) (fun v9 _ => gs.length - (intOf v9).toNat)
 case atStart => exact ⟨0, Nat.zero_le _, rfl, rfl, Below.refl _ _⟩
 case round =>
  obtain ⟨k, hk, rfl, hp, hB⟩ := hrel
  by_cases hlt : k < gs.length
  ·have hx : gs[k]? = some gs[k] := List.getElem?_eq_getElem hlt
   obtain ⟨B, o, rfl, hc⟩ := (HA.out.up hB) (by omega)
   obtain ⟨c0, c1, c2, c3, c4⟩ := hc k _ hx
   clear hc
   have HX := Lib.hid hx
   clear hx
   have hS := hB.size
   cases hq : p gs[k] with
   | true =>
    go_wp2_with ((with_reducible refine Calls.mono (HF.out _ (List.getElem_mem hlt) _) ?_); rintro e w2 ⟨rfl, hb2⟩; have hB2 : Below w.heap.size w w2 := Below.trans zg (hb2.mono (by first | omega | (simp; omega))))
    go_roundw
    case rel => exact ⟨k + 1, hlt, by go_num, by rw [hp.out, List.drop_eq_getElem_cons hlt, List.all_cons, hq, Bool.true_and]; exact rfl, hB2⟩
    case measure => simp [intOf]; omega
   | false =>
    go_wp2_with ((with_reducible refine Calls.mono (HF.out _ (List.getElem_mem hlt) _) ?_); rintro e w2 ⟨rfl, hb2⟩; have hB2 : Below w.heap.size w w2 := Below.trans zg (hb2.mono (by first | omega | (simp; omega))))
    go_ret
    have hfin : gs.all p = false := by rw [hp.out, List.drop_eq_getElem_cons hlt, List.all_cons, hq, Bool.false_and]
    exact ⟨by rw [hfin]; rfl, hB2⟩
  ·have hkl : k = gs.length := by omega
   go_wp2_with fail
   go_ret
   have hfin : gs.all p = true := by rw [hp.out, hkl, List.drop_length]; rfl
   exact ⟨by rw [hfin]; rfl, hB⟩
def IntsAt (w : World) (A : Option Addr) (xs : List Int) : Prop :=
 0 < xs.length → ∃ B o, A = some ⟨B, o, none⟩ ∧ ∀ (k : Nat) (x : Int), xs[k]? = some x → w.cell? ⟨B, o + k, none⟩ = some (.int .i64 x)
theorem IntsAt.up {w w' : World} {A : Option Addr} {xs : List Int} (h : IntsAt w A xs) (hb : Below w.heap.size w w') : IntsAt w' A xs := fun hn => by
 obtain ⟨B, o, e, hc⟩ := h hn
 exact ⟨B, o, e, fun k x hx => up_cell hb (hc k x hx)⟩
set_option maxRecDepth 100000 in
set_option maxHeartbeats 1000000 in
theorem everyInt_any (F : FuncId) (p : Int → Bool) (xs : List Int) (hcf : ∀ (args : Array Value) (w : World), (callFunc F args).run Try.prog w = .ok (.enter F args) w) (hF : ∀ h ∈ xs, ∀ w : World, Calls Try.prog F #[.int .i64 h] w fun e w' => e = .returned (.bool (p h)) ∧ Below w.heap.size w w')
  (A : Option Addr) (c : Nat) (w : World) (hA : IntsAt w A xs) (hl : xs.length ≤ 1000) :
  Calls Try.prog 113 #[.slice A xs.length c, .func (.func F) #[] #[]] w fun e w' => e = .returned (.bool (xs.all p)) ∧ Below w.heap.size w w' := by
 have HF := Lib.hid hF
 have HA := Lib.hid hA
 clear hF hA
 go_enter Try.func113, Try.ntmps113
 go_wp2_with fail
 go_loopw [9] (fun v9 wr => ∃ k : Nat, k ≤ xs.length ∧ v9 = .int .i64 k ∧ Hid (xs.all p = (xs.drop k).all p) ∧ Below w.heap.size w wr) (fun v9 _ => xs.length - (intOf v9).toNat)
 case atStart => exact ⟨0, Nat.zero_le _, rfl, rfl, Below.refl _ _⟩
 case round =>
  obtain ⟨k, hk, rfl, hp, hB⟩ := hrel
  by_cases hlt : k < xs.length
  ·have hx : xs[k]? = some xs[k] := List.getElem?_eq_getElem hlt
   obtain ⟨B, o, rfl, hc⟩ := (HA.out.up hB) (by omega)
   have c0 := hc k _ hx
   clear hc
   have HX := Lib.hid hx
   clear hx
   have hS := hB.size
   cases hq : p xs[k] with
   | true =>
    go_wp2_with ((with_reducible refine Calls.mono (HF.out _ (List.getElem_mem hlt) _) ?_); rintro e w2 ⟨rfl, hb2⟩; have hB2 : Below w.heap.size w w2 := Below.trans zg (hb2.mono (by first | omega | (simp; omega))))
    go_roundw
    case rel => exact ⟨k + 1, hlt, by go_num, by rw [hp.out, List.drop_eq_getElem_cons hlt, List.all_cons, hq, Bool.true_and]; exact rfl, hB2⟩
    case measure => simp [intOf]; omega
   | false =>
    go_wp2_with ((with_reducible refine Calls.mono (HF.out _ (List.getElem_mem hlt) _) ?_); rintro e w2 ⟨rfl, hb2⟩; have hB2 : Below w.heap.size w w2 := Below.trans zg (hb2.mono (by first | omega | (simp; omega))))
    go_ret
    have hfin : xs.all p = false := by rw [hp.out, List.drop_eq_getElem_cons hlt, List.all_cons, hq, Bool.false_and]
    exact ⟨by rw [hfin]; rfl, hB2⟩
  ·have hkl : k = xs.length := by omega
   go_wp2_with fail
   go_ret
   have hfin : xs.all p = true := by rw [hp.out, hkl, List.drop_length]; rfl
   exact ⟨by rw [hfin]; rfl, hB⟩
theorem cf_isGrains (args : Array Value) (w : World) : (callFunc 132 args).run Try.prog w = .ok (.enter 132 args) w := by kernel_rfl
theorem cf_isParts (args : Array Value) (w : World) : (callFunc 131 args).run Try.prog w = .ok (.enter 131 args) w := by kernel_rfl
theorem cf_isTaken (args : Array Value) (w : World) : (callFunc 89 args).run Try.prog w = .ok (.enter 89 args) w := by kernel_rfl
theorem cf_isEnough (args : Array Value) (w : World) : (callFunc 90 args).run Try.prog w = .ok (.enter 90 args) w := by kernel_rfl
theorem cf_isGrade (args : Array Value) (w : World) : (callFunc 84 args).run Try.prog w = .ok (.enter 84 args) w := by kernel_rfl
end Go.Proofs.Ytifffonoipapgaa
