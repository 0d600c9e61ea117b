
import Derived.Test.YtifffonoipapgaaVAA
import Derived.Test.YtifffonoipapgaaVAC
import Derived.Test.YtifffonoipapgaaVAE
import Derived.Test.YtifffonoipapgaaVAL
set_option linter.unusedSimpArgs false
set_option linter.unusedVariables false
namespace Go.Proofs.Ytifffonoipapgaa
open Go.RowKit
def CountsAt (w : World) (F : FuncId) (first cap : Array Value) (p : Nat → Bool) (n : Nat) : Prop :=
 ∀ (i : Nat) (W : World), i < n → Below w.heap.size w W → Calls Try.prog F (first.push (.int .i64 (i : Int)) ++ cap) W fun e w' => e = .returned (.bool (p i)) ∧ Below W.heap.size W w'
theorem CountsAt.up {w w' : World} {F : FuncId} {first cap : Array Value} {p : Nat → Bool} {n : Nat} (h : CountsAt w F first cap p n) (hb : Below w.heap.size w w') : CountsAt w' F first cap p n :=
 fun i W hi hB => h i W hi (hb.trans (hB.mono hb.size))
set_option maxRecDepth 100000 in
set_option maxHeartbeats 2000000 in
theorem bounds_any (full empty err miss : Int) (A : Option Addr) (c : Nat) (hs : List Hf) (gs : Value) (F : FuncId) (first cap : Array Value) (p : Nat → Bool) (w : World) (hA : HandsAt w A hs) (hl : hs.length ≤ 1000)
  (m0 : 0 ≤ miss) (m1 : miss ≤ 20) (ht : ∀ x ∈ hs, x.taken = true) (he : ∀ x ∈ hs, x.enough = true)
  (hcf : ∀ (args : Array Value) (w : World), (callFunc F args).run Try.prog w = .ok (.enter F args) w) (hc : CountsAt w F first cap p hs.length) :
  Calls Try.prog 104 #[.agg #[.int .i64 full, .int .i64 empty, .slice A hs.length c, .int .i64 err, .int .i64 miss, gs, .func (.func F) first cap]] w fun e w' => e = .returned (.agg #[.int .i64 (boundsOf miss p hs).l0, .int .i64 (boundsOf miss p hs).h0, .int .i64 (boundsOf miss p hs).l1, .int .i64 (boundsOf miss p hs).h1, .int .i64 (boundsOf miss p hs).l2, .int .i64 (boundsOf miss p hs).h2, .int .i64 (boundsOf miss p hs).l3, .int .i64 (boundsOf miss p hs).h3]) ∧ Below w.heap.size w w' := by
 have HA := Lib.hid hA
 have HT := Lib.hid ht
 have HE := Lib.hid he
 have HC := Lib.hid hc
 clear hA ht he hc
 go_enter Try.func104, Try.ntmps104
 go_wp2_with (go_at_call 136; refine (anyParts_any _).mono ?_; rintro e w2 ⟨rfl, hb2⟩; have Hc2 : Holds w2 (w.heap.size) 147 #[.int .i64 full, .int .i64 empty, .slice A hs.length c, .int .i64 err, .int .i64 miss, gs, .func (.func F) first cap] := Holds.up zp0 hb2; have Hr2 : Holds w2 (w.heap.size + 1) 153 #[.int .i64 0, .int .i64 0, .int .i64 0, .int .i64 0, .int .i64 0, .int .i64 0, .int .i64 0, .int .i64 0] := Holds.up zp0 hb2; have hB2 : Below w.heap.size w w2 := Below.trans zg (hb2.mono (by first | omega | (simp; done) | (simp; omega))); have hs2 := hb2.size; simp only [World.size_alloc] at hs2; have hl2 : w.heap.size + 1 < w2.heap.size := (by omega); have hl3 : w.heap.size < w2.heap.size := (by omega); clear hb2; have cc2 : w2.cell? ⟨w.heap.size, 2, none⟩ = some (.slice A hs.length c) := Hc2.cell 2)
 go_loopw [11] (fun v11 wr => ∃ (k : Nat) (b : Bx), k ≤ hs.length ∧ v11 = .int .i64 (k : Int) ∧ b.ok ∧ Hid (meetAll miss p 0 hs Bx.any = meetAll miss p k (hs.drop k) b) ∧ Below w.heap.size w wr ∧ w2.heap.size < wr.heap.size ∧ Holds wr (w.heap.size) 147 #[.int .i64 full, .int .i64 empty, .slice A hs.length c, .int .i64 err, .int .i64 miss, gs, .func (.func F) first cap] ∧ Holds wr (w.heap.size + 1) 153 #[.int .i64 0, .int .i64 0, .int .i64 0, .int .i64 0, .int .i64 0, .int .i64 0, .int .i64 0, .int .i64 0] ∧ Holds wr (w2.heap.size) 153 #[.int .i64 b.l0, .int .i64 b.h0, .int .i64 b.l1, .int .i64 b.h1, .int .i64 b.l2, .int .i64 b.h2, .int .i64 b.l3, .int .i64 b.h3]) (fun v11 _ => hs.length - (intOf v11).toNat)
 case atStart => exact ⟨0, Bx.any, Nat.zero_le _, rfl, Bx.ok_any, rfl, zg, by simp, zp0, zp0, (show Holds _ (w2.heap.size) 153 #[.int .i64 0, .int .i64 40, .int .i64 0, .int .i64 40, .int .i64 0, .int .i64 40, .int .i64 0, .int .i64 40] from zp0)⟩
 case round =>
  obtain ⟨k, b, hk, rfl, ob, hm, hB, hS, Hc, Hr, Hb⟩ := hrel
  by_cases hlt : k < hs.length
  ·obtain ⟨B, o, rfl, hcell⟩ := (HA.out.up hB) (by omega)
   obtain ⟨c0, c1, c2, c3, c4⟩ := hcell k _ (List.getElem?_eq_getElem hlt)
   clear hcell
   have htk := HT.out _ (List.getElem_mem hlt)
   have hek := HE.out _ (List.getElem_mem hlt)
   have HTK := Lib.hid htk
   have HEK := Lib.hid hek
   clear htk hek
   have cf6 : wr.cell? ⟨w.heap.size, 6, none⟩ = some (.func (.func F) first cap) := Hc.cell 6
   have hlw : w.heap.size < wr.heap.size := by omega
   have HK : ∀ W : World, Below w.heap.size w W → Calls Try.prog F (first.push (.int .i64 (k : Int)) ++ cap) W fun e w' => e = .returned (.bool (p k)) ∧ Below W.heap.size W w' := fun W hW => HC.out k W hlt hW
   have HKK := Lib.hid HK
   clear HK
   cases hpk : p k with
   | true =>
    have HPK := Lib.hid hpk
    go_wp2_with ((with_reducible refine Calls.mono (HKK.out _ zg) ?_); rw [hpk]; rintro e w3 ⟨rfl, hb3⟩; have Hc3 : Holds w3 (w.heap.size) 147 #[.int .i64 full, .int .i64 empty, .slice (some ⟨B, o, none⟩) hs.length c, .int .i64 err, .int .i64 miss, gs, .func (.func F) first cap] := Holds.up zp0 hb3; have Hr3 : Holds w3 (w.heap.size + 1) 153 #[.int .i64 0, .int .i64 0, .int .i64 0, .int .i64 0, .int .i64 0, .int .i64 0, .int .i64 0, .int .i64 0] := Holds.up zp0 hb3; have Hb3 : Holds w3 (w2.heap.size) 153 #[.int .i64 b.l0, .int .i64 b.h0, .int .i64 b.l1, .int .i64 b.h1, .int .i64 b.l2, .int .i64 b.h2, .int .i64 b.l3, .int .i64 b.h3] := Holds.up zp0 hb3; have Hs3 : Holds w3 (wr.heap.size) 30 #[.int .i64 hs[k].spot, .int .i64 hs[k].g0, .int .i64 hs[k].g1, .int .i64 hs[k].g2, .int .i64 hs[k].g3] := Holds.up zp0 hb3; have hB3 : Below w.heap.size w w3 := Below.trans zg (hb3.mono (by first | omega | (simp; done) | (simp; omega))); have hs3 := hb3.size; simp only [World.size_alloc] at hs3; clear hb3 Hc Hr Hb)
    rename_i Kc hKc
    refine wp_region_parts (by kernel_rfl) 5 [20, 21, 22, 23, 24] (fun t v w' => match t with
     | 20 => v = .agg #[.int .i64 b.l0, .int .i64 b.h0, .int .i64 b.l1, .int .i64 b.h1, .int .i64 b.l2, .int .i64 b.h2, .int .i64 b.l3, .int .i64 b.h3]
     | 21 => v = .agg #[.int .i64 full, .int .i64 empty, .slice (some ⟨B, o, none⟩) hs.length c, .int .i64 err, .int .i64 miss, gs, .func (.func F) first cap]
     | 22 => v = .agg #[.int .i64 hs[k].spot, .int .i64 hs[k].g0, .int .i64 hs[k].g1, .int .i64 hs[k].g2, .int .i64 hs[k].g3]
     | 23 => v = .agg #[.int .i64 (letBx miss hs[k]).l0, .int .i64 (letBx miss hs[k]).h0, .int .i64 (letBx miss hs[k]).l1, .int .i64 (letBx miss hs[k]).h1, .int .i64 (letBx miss hs[k]).l2, .int .i64 (letBx miss hs[k]).h2, .int .i64 (letBx miss hs[k]).l3, .int .i64 (letBx miss hs[k]).h3]
     | 24 => v = .agg #[.int .i64 (b.meet (letBx miss hs[k])).l0, .int .i64 (b.meet (letBx miss hs[k])).h0, .int .i64 (b.meet (letBx miss hs[k])).l1, .int .i64 (b.meet (letBx miss hs[k])).h1, .int .i64 (b.meet (letBx miss hs[k])).l2, .int .i64 (b.meet (letBx miss hs[k])).h2, .int .i64 (b.meet (letBx miss hs[k])).l3, .int .i64 (b.meet (letBx miss hs[k])).h3]
     | _ => True) (by kernel_rfl) ?_ ?_ ?_
    ·intro t v w1 w2 hb' h
     revert h
     split <;> intro h <;> first
      | exact h
    ·refine ⟨?_, ?_, ?_, ?_, ?_, trivial⟩
     ·intro x w1 hb1 hx K hK
      clear hx hKc
      have Hc4 := Hc3.up hb1
      have Hb4 := Hb3.up hb1
      have Hs4 := Hs3.up hb1
      obtain ⟨cc0, cc1, cc2, cc3, cc4, cc5, cc6⟩ := Hc4.c7
      obtain ⟨cb0, cb1, cb2, cb3, cb4, cb5, cb6, cb7⟩ := Hb4.c8
      obtain ⟨cs0, cs1, cs2, cs3, cs4⟩ := Hs4.c5
      simp only [frameOf, fill, sg, Nat.reduceBEq, if_true, if_false, Nat.reduceAdd, Nat.reduceEqDiff] at hK ⊢
      go_wp2_with (first | (go_at_call 138; refine (letsAll_bx full empty err miss hs[k] _ gs _ _ m0 m1 HTK.out HEK.out).mono ?_; rintro e w5 ⟨rfl, hb5⟩) | (go_at_call 137; refine (boxMeet_bx b (letBx miss hs[k]) _).mono ?_; rintro e w5 ⟨rfl, hb5⟩))
      exact hK _ _ (Below.refl _ _) rfl
     ·intro x w1 hb1 hx K hK
      clear hx hKc
      have Hc4 := Hc3.up hb1
      have Hb4 := Hb3.up hb1
      have Hs4 := Hs3.up hb1
      obtain ⟨cc0, cc1, cc2, cc3, cc4, cc5, cc6⟩ := Hc4.c7
      obtain ⟨cb0, cb1, cb2, cb3, cb4, cb5, cb6, cb7⟩ := Hb4.c8
      obtain ⟨cs0, cs1, cs2, cs3, cs4⟩ := Hs4.c5
      simp only [frameOf, fill, sg, Nat.reduceBEq, if_true, if_false, Nat.reduceAdd, Nat.reduceEqDiff] at hK ⊢
      go_wp2_with (first | (go_at_call 138; refine (letsAll_bx full empty err miss hs[k] _ gs _ _ m0 m1 HTK.out HEK.out).mono ?_; rintro e w5 ⟨rfl, hb5⟩) | (go_at_call 137; refine (boxMeet_bx b (letBx miss hs[k]) _).mono ?_; rintro e w5 ⟨rfl, hb5⟩))
      exact hK _ _ (Below.refl _ _) rfl
     ·intro x w1 hb1 hx K hK
      clear hx hKc
      have Hc4 := Hc3.up hb1
      have Hb4 := Hb3.up hb1
      have Hs4 := Hs3.up hb1
      obtain ⟨cc0, cc1, cc2, cc3, cc4, cc5, cc6⟩ := Hc4.c7
      obtain ⟨cb0, cb1, cb2, cb3, cb4, cb5, cb6, cb7⟩ := Hb4.c8
      obtain ⟨cs0, cs1, cs2, cs3, cs4⟩ := Hs4.c5
      simp only [frameOf, fill, sg, Nat.reduceBEq, if_true, if_false, Nat.reduceAdd, Nat.reduceEqDiff] at hK ⊢
      go_wp2_with (first | (go_at_call 138; refine (letsAll_bx full empty err miss hs[k] _ gs _ _ m0 m1 HTK.out HEK.out).mono ?_; rintro e w5 ⟨rfl, hb5⟩) | (go_at_call 137; refine (boxMeet_bx b (letBx miss hs[k]) _).mono ?_; rintro e w5 ⟨rfl, hb5⟩))
      exact hK _ _ (Below.refl _ _) rfl
     ·intro x w1 hb1 hx K hK
      have e21 : x 21 = .agg #[.int .i64 full, .int .i64 empty, .slice (some ⟨B, o, none⟩) hs.length c, .int .i64 err, .int .i64 miss, gs, .func (.func F) first cap] := hx 21 (by rfl)
      have e22 : x 22 = .agg #[.int .i64 hs[k].spot, .int .i64 hs[k].g0, .int .i64 hs[k].g1, .int .i64 hs[k].g2, .int .i64 hs[k].g3] := hx 22 (by rfl)
      clear hx hKc
      have Hc4 := Hc3.up hb1
      have Hb4 := Hb3.up hb1
      have Hs4 := Hs3.up hb1
      obtain ⟨cc0, cc1, cc2, cc3, cc4, cc5, cc6⟩ := Hc4.c7
      obtain ⟨cb0, cb1, cb2, cb3, cb4, cb5, cb6, cb7⟩ := Hb4.c8
      obtain ⟨cs0, cs1, cs2, cs3, cs4⟩ := Hs4.c5
      simp only [frameOf, fill, sg, Nat.reduceBEq, if_true, if_false, Nat.reduceAdd, Nat.reduceEqDiff] at hK ⊢
      simp only [e21, e22] at hK ⊢
      clear e21 e22
      go_wp2_with (first | (go_at_call 138; refine (letsAll_bx full empty err miss hs[k] _ gs _ _ m0 m1 HTK.out HEK.out).mono ?_; rintro e w5 ⟨rfl, hb5⟩) | (go_at_call 137; refine (boxMeet_bx b (letBx miss hs[k]) _).mono ?_; rintro e w5 ⟨rfl, hb5⟩))
      exact hK _ _ hb5 rfl
     ·intro x w1 hb1 hx K hK
      have e20 : x 20 = .agg #[.int .i64 b.l0, .int .i64 b.h0, .int .i64 b.l1, .int .i64 b.h1, .int .i64 b.l2, .int .i64 b.h2, .int .i64 b.l3, .int .i64 b.h3] := hx 20 (by rfl)
      have e23 : x 23 = .agg #[.int .i64 (letBx miss hs[k]).l0, .int .i64 (letBx miss hs[k]).h0, .int .i64 (letBx miss hs[k]).l1, .int .i64 (letBx miss hs[k]).h1, .int .i64 (letBx miss hs[k]).l2, .int .i64 (letBx miss hs[k]).h2, .int .i64 (letBx miss hs[k]).l3, .int .i64 (letBx miss hs[k]).h3] := hx 23 (by rfl)
      clear hx hKc
      have Hc4 := Hc3.up hb1
      have Hb4 := Hb3.up hb1
      have Hs4 := Hs3.up hb1
      obtain ⟨cc0, cc1, cc2, cc3, cc4, cc5, cc6⟩ := Hc4.c7
      obtain ⟨cb0, cb1, cb2, cb3, cb4, cb5, cb6, cb7⟩ := Hb4.c8
      obtain ⟨cs0, cs1, cs2, cs3, cs4⟩ := Hs4.c5
      simp only [frameOf, fill, sg, Nat.reduceBEq, if_true, if_false, Nat.reduceAdd, Nat.reduceEqDiff] at hK ⊢
      simp only [e20, e23] at hK ⊢
      clear e20 e23
      go_wp2_with (first | (go_at_call 138; refine (letsAll_bx full empty err miss hs[k] _ gs _ _ m0 m1 HTK.out HEK.out).mono ?_; rintro e w5 ⟨rfl, hb5⟩) | (go_at_call 137; refine (boxMeet_bx b (letBx miss hs[k]) _).mono ?_; rintro e w5 ⟨rfl, hb5⟩))
      exact hK _ _ hb5 rfl
    ·intro x w1 hb1 hx
     have e20 : x 20 = .agg #[.int .i64 b.l0, .int .i64 b.h0, .int .i64 b.l1, .int .i64 b.h1, .int .i64 b.l2, .int .i64 b.h2, .int .i64 b.l3, .int .i64 b.h3] := hx 20 (by decide)
     have e21 : x 21 = .agg #[.int .i64 full, .int .i64 empty, .slice (some ⟨B, o, none⟩) hs.length c, .int .i64 err, .int .i64 miss, gs, .func (.func F) first cap] := hx 21 (by decide)
     have e22 : x 22 = .agg #[.int .i64 hs[k].spot, .int .i64 hs[k].g0, .int .i64 hs[k].g1, .int .i64 hs[k].g2, .int .i64 hs[k].g3] := hx 22 (by decide)
     have e23 : x 23 = .agg #[.int .i64 (letBx miss hs[k]).l0, .int .i64 (letBx miss hs[k]).h0, .int .i64 (letBx miss hs[k]).l1, .int .i64 (letBx miss hs[k]).h1, .int .i64 (letBx miss hs[k]).l2, .int .i64 (letBx miss hs[k]).h2, .int .i64 (letBx miss hs[k]).l3, .int .i64 (letBx miss hs[k]).h3] := hx 23 (by decide)
     have e24 : x 24 = .agg #[.int .i64 (b.meet (letBx miss hs[k])).l0, .int .i64 (b.meet (letBx miss hs[k])).h0, .int .i64 (b.meet (letBx miss hs[k])).l1, .int .i64 (b.meet (letBx miss hs[k])).h1, .int .i64 (b.meet (letBx miss hs[k])).l2, .int .i64 (b.meet (letBx miss hs[k])).h2, .int .i64 (b.meet (letBx miss hs[k])).l3, .int .i64 (b.meet (letBx miss hs[k])).h3] := hx 24 (by decide)
     clear hx
     have Hc4 := Hc3.up hb1
     have Hb4 := Hb3.up hb1
     have Hs4 := Hs3.up hb1
     obtain ⟨cc0, cc1, cc2, cc3, cc4, cc5, cc6⟩ := Hc4.c7
     obtain ⟨cb0, cb1, cb2, cb3, cb4, cb5, cb6, cb7⟩ := Hb4.c8
     obtain ⟨cs0, cs1, cs2, cs3, cs4⟩ := Hs4.c5
     simp only [frameOf, fill, List.contains_cons, List.contains_nil, Nat.reduceBEq, Bool.or_false, Bool.false_or, Bool.or_true, Bool.true_or, if_true, if_false, Bool.false_eq_true, Nat.reduceAdd, Nat.zero_add]
     simp only [e20, e21, e22, e23, e24]
     clear e20 e21 e22 e23 e24
     have hB4 : Below w.heap.size w w1 := hB3.trans (hb1.mono (by omega))
     have hs4 := hb1.size
     have Hr4 := Hr3.up hb1
     clear hb1 Hs4
     obtain ⟨db0, db1, db2, db3, db4, db5, db6, db7⟩ := Hb4.c8
     obtain ⟨zb0, zb1, zb2, zb3, zb4, zb5, zb6, zb7⟩ := Hb4.f8
     clear Hc3 Hb3 Hs3 Hr3
     have hl4 : w.heap.size < w1.heap.size := by omega
     go_wp2_with fail
     go_roundw
     case rel => exact ⟨k + 1, b.meet (letBx miss hs[k]), hlt, by go_num, ob.meet _, by rw [hm.out, List.drop_eq_getElem_cons hlt, meetAll, HPK.out]; exact rfl, zg, by first | omega | (simp; omega), zp0, zp0, zp0⟩
     case measure => simp [intOf]; omega
   | false =>
    have HPK := Lib.hid hpk
    go_wp2_with ((with_reducible refine Calls.mono (HKK.out _ zg) ?_); rw [hpk]; rintro e w3 ⟨rfl, hb3⟩; have Hc3 : Holds w3 (w.heap.size) 147 #[.int .i64 full, .int .i64 empty, .slice (some ⟨B, o, none⟩) hs.length c, .int .i64 err, .int .i64 miss, gs, .func (.func F) first cap] := Holds.up zp0 hb3; have Hr3 : Holds w3 (w.heap.size + 1) 153 #[.int .i64 0, .int .i64 0, .int .i64 0, .int .i64 0, .int .i64 0, .int .i64 0, .int .i64 0, .int .i64 0] := Holds.up zp0 hb3; have Hb3 : Holds w3 (w2.heap.size) 153 #[.int .i64 b.l0, .int .i64 b.h0, .int .i64 b.l1, .int .i64 b.h1, .int .i64 b.l2, .int .i64 b.h2, .int .i64 b.l3, .int .i64 b.h3] := Holds.up zp0 hb3; have Hs3 : Holds w3 (wr.heap.size) 30 #[.int .i64 hs[k].spot, .int .i64 hs[k].g0, .int .i64 hs[k].g1, .int .i64 hs[k].g2, .int .i64 hs[k].g3] := Holds.up zp0 hb3; have hB3 : Below w.heap.size w w3 := Below.trans zg (hb3.mono (by first | omega | (simp; done) | (simp; omega))); have hs3 := hb3.size; simp only [World.size_alloc] at hs3; clear hb3 Hc Hr Hb)
    go_roundw
    case rel => exact ⟨k + 1, b, hlt, by go_num, ob, by rw [hm.out, List.drop_eq_getElem_cons hlt, meetAll, HPK.out]; exact rfl, zg, by first | omega | (simp; omega), zp0, zp0, zp0⟩
    case measure => simp [intOf]; omega
  ·have hkl : k = hs.length := by omega
   have hfin : b.narrow = boundsOf miss p hs := by unfold boundsOf; rw [hm.out, hkl, List.drop_length]; rfl
   obtain ⟨cb0, cb1, cb2, cb3, cb4, cb5, cb6, cb7⟩ := Hb.c8
   go_wp2_with (go_at_call 139; refine (narrow_any b ob _).mono ?_; rintro e w6 ⟨rfl, hb6⟩; have Hr6 : Holds w6 (w.heap.size + 1) 153 #[.int .i64 0, .int .i64 0, .int .i64 0, .int .i64 0, .int .i64 0, .int .i64 0, .int .i64 0, .int .i64 0] := Holds.up zp0 hb6; have hB6 : Below w.heap.size w w6 := Below.trans zg (hb6.mono (by first | omega | (simp; done) | (simp; omega))); have cr0 : w6.cell? ⟨w.heap.size + 1, 0, none⟩ = some (.int .i64 0) := Hr6.cell 0; have zr0 : w6.frozen? ⟨w.heap.size + 1, 0, none⟩ = false := Hr6.frozen 0; have cr1 : w6.cell? ⟨w.heap.size + 1, 1, none⟩ = some (.int .i64 0) := Hr6.cell 1; have zr1 : w6.frozen? ⟨w.heap.size + 1, 1, none⟩ = false := Hr6.frozen 1; have cr2 : w6.cell? ⟨w.heap.size + 1, 2, none⟩ = some (.int .i64 0) := Hr6.cell 2; have zr2 : w6.frozen? ⟨w.heap.size + 1, 2, none⟩ = false := Hr6.frozen 2; have cr3 : w6.cell? ⟨w.heap.size + 1, 3, none⟩ = some (.int .i64 0) := Hr6.cell 3; have zr3 : w6.frozen? ⟨w.heap.size + 1, 3, none⟩ = false := Hr6.frozen 3; have cr4 : w6.cell? ⟨w.heap.size + 1, 4, none⟩ = some (.int .i64 0) := Hr6.cell 4; have zr4 : w6.frozen? ⟨w.heap.size + 1, 4, none⟩ = false := Hr6.frozen 4; have cr5 : w6.cell? ⟨w.heap.size + 1, 5, none⟩ = some (.int .i64 0) := Hr6.cell 5; have zr5 : w6.frozen? ⟨w.heap.size + 1, 5, none⟩ = false := Hr6.frozen 5; have cr6 : w6.cell? ⟨w.heap.size + 1, 6, none⟩ = some (.int .i64 0) := Hr6.cell 6; have zr6 : w6.frozen? ⟨w.heap.size + 1, 6, none⟩ = false := Hr6.frozen 6; have cr7 : w6.cell? ⟨w.heap.size + 1, 7, none⟩ = some (.int .i64 0) := Hr6.cell 7; have zr7 : w6.frozen? ⟨w.heap.size + 1, 7, none⟩ = false := Hr6.frozen 7)
   rw [← hfin]
   refine ret_cell (t := 153) rfl rfl (Hr6.set8 _ _ _ _ _ _ _ _) Try.underlying153 rfl (by kernel_rfl) rfl ⟨rfl, zg⟩
def indexIn (x : Int) : List Int → Int → Int
 | [], _ => -1
 | y :: l, i => if x == y then i else indexIn x l (i + 1)
theorem indexIn_ge (x : Int) : ∀ (l : List Int) (i : Int), 0 ≤ i → decide (0 ≤ indexIn x l i) = l.contains x := by
 intro l
 induction l with
 | nil => intro i _; simp [indexIn]
 | cons y l ih =>
  intro i hi
  have h2 := ih (i + 1) (by omega)
  by_cases h : x = y
  ·subst h; simp [indexIn, hi]
  ·have hb : (x == y) = false := by simpa using h
   rw [List.contains_cons, hb, Bool.false_or, ← h2, indexIn, hb]
   simp
set_option maxRecDepth 100000 in
set_option maxHeartbeats 1000000 in
theorem Index_any (A : Option Addr) (c : Nat) (xs : List Int) (v : Int) (w : World) (hA : IntsAt w A xs) (hl : xs.length ≤ 1000000) :
  Calls Try.prog 119 #[.slice A xs.length c, .int .i64 v] w fun e w' => e = .returned (.int .i64 (indexIn v xs 0)) ∧ w = w' := by
 have HA := Lib.hid hA
 clear hA
 go_enter Try.func119, Try.ntmps119
 go_wp2_with fail
 go_loop [8] (fun v8 => ∃ k : Nat, k ≤ xs.length ∧ v8 = .int .i64 k ∧ Hid (indexIn v xs 0 = indexIn v (xs.drop k) k)) (fun v8 => xs.length - (intOf v8).toNat)
 case atStart => exact ⟨0, Nat.zero_le _, rfl, rfl⟩
 case round =>
  obtain ⟨k, hk, rfl, hp⟩ := hrel
  by_cases hlt : k < xs.length
  ·obtain ⟨B, o, rfl, hc⟩ := HA.out (by omega)
   have c0 := hc k _ (List.getElem?_eq_getElem hlt)
   clear hc
   cases hq : (v == xs[k]) with
   | true =>
    have hfin : indexIn v xs 0 = k := by rw [hp.out, List.drop_eq_getElem_cons hlt, indexIn, hq]; rfl
    have HF := Lib.hid hfin
    clear hfin
    go_wp2_with fail
    go_ret
    exact ⟨by rw [HF.out]; rfl, rfl⟩
   | false =>
    have hnext : indexIn v xs 0 = indexIn v (xs.drop (k + 1)) ((k + 1 : Nat) : Int) := by rw [hp.out, List.drop_eq_getElem_cons hlt, indexIn, hq]; simp
    have HN := Lib.hid hnext
    clear hnext
    go_wp2_with fail
    go_round
    case rel => exact ⟨k + 1, hlt, by go_num, HN.out⟩
    case measure => simp [intOf]; omega
  ·have hkl : k = xs.length := by omega
   have hfin : indexIn v xs 0 = -1 := by rw [hp.out, hkl, List.drop_length]; rfl
   have HF := Lib.hid hfin
   clear hfin
   go_wp2_with fail
   go_ret
   exact ⟨by rw [HF.out]; rfl, rfl⟩
theorem Contains_any (A : Option Addr) (c : Nat) (xs : List Int) (v : Int) (w : World) (hA : IntsAt w A xs) (hl : xs.length ≤ 1000000) :
  Calls Try.prog 57 #[.slice A xs.length c, .int .i64 v] w fun e w' => e = .returned (.bool (xs.contains v)) ∧ w = w' := by
 have E := Lib.hid (indexIn_ge v xs 0 (Int.le_refl 0))
 go_enter Try.func57, Try.ntmps57
 go_wp2_with (go_at_call 119; refine (Index_any A c xs v _ hA hl).mono ?_; rintro e w' ⟨rfl, rfl⟩)
 go_ret
 exact ⟨by rw [← E.out]; rfl, rfl⟩
end Go.Proofs.Ytifffonoipapgaa
