
import Derived.Test.YtifffonoipapgaaVAA
import Derived.Test.YtifffonoipapgaaVAC
import Derived.Test.YtifffonoipapgaaVBJ
import Derived.Test.YtifffonoipapgaaVBP
set_option linter.unusedSimpArgs false
set_option linter.unusedVariables false
namespace Go.Proofs.Ytifffonoipapgaa
open Go.RowKit
set_option maxRecDepth 100000 in
set_option maxHeartbeats 8000000 in
theorem Agree_err (err miss full emp : Int) (G H : Option Addr) (d q : Nat) (gs : List Gr) (hs : List Hf) (A : Option Addr) (c : Nat) (xs : List Int) (w : World) (hG : GradesAt w G gs) (hgl : gs.length ≤ 1000) (hA : HandsAt w H hs) (hl : hs.length ≤ 1000) (he : bothErr err miss gs full emp hs ≠ 0) :
  Calls Try.prog 51 #[.agg #[.int .i64 err, .int .i64 miss, .slice G gs.length d], .agg #[.int .i64 full, .int .i64 emp, .slice H hs.length q], .slice A xs.length c] w fun e w' => e = .returned (.tuple #[.bool false, .int .i64 (bothErr err miss gs full emp hs)]) ∧ Below w.heap.size w w' := by
 have HH := Lib.hid hA
 have HG := Lib.hid hG
 clear hA hG
 have HE := Lib.hid he
 have hq : (bothErr err miss gs full emp hs != 0) = true := by simpa using he
 clear he
 go_enter Try.func51, Try.ntmps51
 go_wp2_with (go_at_call 97; refine (arrive_err err miss full emp G H d q gs hs _ (HG.out.up zg) hgl (HH.out.up zg) hl HE.out).mono ?_; rintro e w2 ⟨rfl, hb2⟩; have hB2 : Below w.heap.size w w2 := Below.trans zg (hb2.mono (by first | omega | (simp; done) | (simp; omega))); have hs2 := hb2.size; simp only [World.size_alloc] at hs2)
 go_ret2
 exact ⟨rfl, zg⟩
set_option maxRecDepth 100000 in
set_option maxHeartbeats 8000000 in
theorem Agree_not (err miss full emp : Int) (G H : Option Addr) (d q : Nat) (gs : List Gr) (hs : List Hf) (A : Option Addr) (c : Nat) (xs : List Int) (w : World) (hG : GradesAt w G gs) (hgl : gs.length ≤ 1000) (hA : HandsAt w H hs) (hl : hs.length ≤ 1000) (he : bothErr err miss gs full emp hs = 0) (hX : IntsAt w A xs) (hlx : xs.length ≤ 1000) (hal : xs.all (fun x => within x 0 ((hs.length : Int) - 1)) = false) :
  Calls Try.prog 51 #[.agg #[.int .i64 err, .int .i64 miss, .slice G gs.length d], .agg #[.int .i64 full, .int .i64 emp, .slice H hs.length q], .slice A xs.length c] w fun e w' => e = .returned (.tuple #[.bool false, .int .i64 1]) ∧ Below w.heap.size w w' := by
 have HH := Lib.hid hA
 have HG := Lib.hid hG
 have HX := Lib.hid hX
 have HE := Lib.hid he
 have HAL := Lib.hid hal
 clear he hA hG hX hal
 go_enter Try.func51, Try.ntmps51
 go_wp2_with fail
 refine (arrive_at err miss full emp G H d q gs hs _ (HG.out.up zg) hgl (HH.out.up zg) hl HE.out).mono ?_
 rintro e w2 ⟨rfl, hb2⟩
 have Hg2 := Lib.hid (Holds.up (zp6 : Holds _ (w.heap.size) 24 #[.int .i64 err, .int .i64 miss, .slice G gs.length d]) hb2)
 have Hc2 := Lib.hid (Holds.up (zp6 : Holds _ (w.heap.size + 1) 27 #[.int .i64 full, .int .i64 emp, .slice H hs.length q]) hb2)
 have HS2 : Hid (Below w.heap.size w w2) := Lib.hid (Below.trans zg (hb2.mono (by first | exact Nat.le_refl _ | omega | (simp; done) | (simp; omega))))
 have HB2 := HS2
 have hs2 := HB2.out.size
 have hst2 := HS2.out.size
 have HH2 := Lib.hid (HH.out.up HS2.out)
 have HX2 := Lib.hid (HX.out.up HS2.out)
 clear hb2
 go_wp2_with fail
 refine (everyHas_any full emp H hs.length q hl A c xs _ (HX2.out.up zg) hlx).mono ?_
 rw [HAL.out]
 rintro e w3 ⟨rfl, hb3⟩
 have Hg3 := Lib.hid (Holds.up (by have h := Hg2.out; exact zp6 : Holds _ (w.heap.size) 24 #[.int .i64 err, .int .i64 miss, .slice G gs.length d]) hb3)
 have Hc3 := Lib.hid (Holds.up (by have h := Hc2.out; exact zp6 : Holds _ (w.heap.size + 1) 27 #[.int .i64 full, .int .i64 emp, .slice H hs.length q]) hb3)
 have Ha3 := Lib.hid (Holds.up (zp6 : Holds _ (w2.heap.size) 147 #[.int .i64 full, .int .i64 emp, .slice H hs.length q, .int .i64 err, .int .i64 miss, .slice G gs.length d, .func (.func 99) #[.agg #[.int .i64 full, .int .i64 emp, .slice H hs.length q]] #[]]) hb3)
 have HS3 : Hid (Below w2.heap.size w2 w3) := Lib.hid (Below.trans zg (hb3.mono (by first | exact Nat.le_refl _ | omega | (simp; done) | (simp; omega))))
 have HB3 : Hid (Below w.heap.size w w3) := Lib.hid (HB2.out.trans (HS3.out.mono hs2))
 have hs3 := HB3.out.size
 have hst3 := HS3.out.size
 have HH3 := Lib.hid (HH2.out.up HS3.out)
 have HX3 := Lib.hid (HX2.out.up HS3.out)
 clear hb3
 go_wp2_with fail
 go_ret2
 exact ⟨rfl, HB3.out⟩
set_option maxRecDepth 100000 in
set_option maxHeartbeats 8000000 in
theorem Agree_twice (err miss full emp : Int) (G H : Option Addr) (d q : Nat) (gs : List Gr) (hs : List Hf) (A : Option Addr) (c : Nat) (xs : List Int) (w : World) (hG : GradesAt w G gs) (hgl : gs.length ≤ 1000) (hA : HandsAt w H hs) (hl : hs.length ≤ 1000) (he : bothErr err miss gs full emp hs = 0) (hX : IntsAt w A xs) (hlx : xs.length ≤ 1000) (hal : xs.all (fun x => within x 0 ((hs.length : Int) - 1)) = true) (htw : twice xs = true) :
  Calls Try.prog 51 #[.agg #[.int .i64 err, .int .i64 miss, .slice G gs.length d], .agg #[.int .i64 full, .int .i64 emp, .slice H hs.length q], .slice A xs.length c] w fun e w' => e = .returned (.tuple #[.bool false, .int .i64 5]) ∧ Below w.heap.size w w' := by
 have HH := Lib.hid hA
 have HG := Lib.hid hG
 have HX := Lib.hid hX
 have HE := Lib.hid he
 have HAL := Lib.hid hal
 have HTW := Lib.hid htw
 have hwf : ∀ x ∈ xs, (Lit.int .i64 x).wf = true := fun x hx => wf_small (List.all_eq_true.1 hal x hx) hl
 have HWF := Lib.hid hwf
 have hlx' : xs.length ≤ 1000000 := by omega
 clear hwf htw
 clear he hA hG hX hal
 go_enter Try.func51, Try.ntmps51
 go_wp2_with fail
 refine (arrive_at err miss full emp G H d q gs hs _ (HG.out.up zg) hgl (HH.out.up zg) hl HE.out).mono ?_
 rintro e w2 ⟨rfl, hb2⟩
 have Hg2 := Lib.hid (Holds.up (zp6 : Holds _ (w.heap.size) 24 #[.int .i64 err, .int .i64 miss, .slice G gs.length d]) hb2)
 have Hc2 := Lib.hid (Holds.up (zp6 : Holds _ (w.heap.size + 1) 27 #[.int .i64 full, .int .i64 emp, .slice H hs.length q]) hb2)
 have HS2 : Hid (Below w.heap.size w w2) := Lib.hid (Below.trans zg (hb2.mono (by first | exact Nat.le_refl _ | omega | (simp; done) | (simp; omega))))
 have HB2 := HS2
 have hs2 := HB2.out.size
 have hst2 := HS2.out.size
 have HH2 := Lib.hid (HH.out.up HS2.out)
 have HX2 := Lib.hid (HX.out.up HS2.out)
 clear hb2
 go_wp2_with fail
 refine (everyHas_any full emp H hs.length q hl A c xs _ (HX2.out.up zg) hlx).mono ?_
 rw [HAL.out]
 rintro e w3 ⟨rfl, hb3⟩
 have Hg3 := Lib.hid (Holds.up (by have h := Hg2.out; exact zp6 : Holds _ (w.heap.size) 24 #[.int .i64 err, .int .i64 miss, .slice G gs.length d]) hb3)
 have Hc3 := Lib.hid (Holds.up (by have h := Hc2.out; exact zp6 : Holds _ (w.heap.size + 1) 27 #[.int .i64 full, .int .i64 emp, .slice H hs.length q]) hb3)
 have Ha3 := Lib.hid (Holds.up (zp6 : Holds _ (w2.heap.size) 147 #[.int .i64 full, .int .i64 emp, .slice H hs.length q, .int .i64 err, .int .i64 miss, .slice G gs.length d, .func (.func 99) #[.agg #[.int .i64 full, .int .i64 emp, .slice H hs.length q]] #[]]) hb3)
 have HS3 : Hid (Below w2.heap.size w2 w3) := Lib.hid (Below.trans zg (hb3.mono (by first | exact Nat.le_refl _ | omega | (simp; done) | (simp; omega))))
 have HB3 : Hid (Below w.heap.size w w3) := Lib.hid (HB2.out.trans (HS3.out.mono hs2))
 have hs3 := HB3.out.size
 have hst3 := HS3.out.size
 have HH3 := Lib.hid (HH2.out.up HS3.out)
 have HX3 := Lib.hid (HX2.out.up HS3.out)
 clear hb3
 go_wp2_with fail
 refine (hasTwice_any A c xs _ (HX3.out.up zg) hlx' HWF.out).mono ?_
 rw [HTW.out]
 rintro e w4 ⟨rfl, hb4⟩
 have Hg4 := Lib.hid (Holds.up (by have h := Hg3.out; exact zp6 : Holds _ (w.heap.size) 24 #[.int .i64 err, .int .i64 miss, .slice G gs.length d]) hb4)
 have Hc4 := Lib.hid (Holds.up (by have h := Hc3.out; exact zp6 : Holds _ (w.heap.size + 1) 27 #[.int .i64 full, .int .i64 emp, .slice H hs.length q]) hb4)
 have Ha4 := Lib.hid (Holds.up (by have h := Ha3.out; exact zp6 : Holds _ (w2.heap.size) 147 #[.int .i64 full, .int .i64 emp, .slice H hs.length q, .int .i64 err, .int .i64 miss, .slice G gs.length d, .func (.func 99) #[.agg #[.int .i64 full, .int .i64 emp, .slice H hs.length q]] #[]]) hb4)
 have HS4 : Hid (Below w3.heap.size w3 w4) := Lib.hid (Below.trans zg (hb4.mono (by first | exact Nat.le_refl _ | omega | (simp; done) | (simp; omega))))
 have HB4 : Hid (Below w.heap.size w w4) := Lib.hid (HB3.out.trans (HS4.out.mono hs3))
 have hs4 := HB4.out.size
 have hst4 := HS4.out.size
 have HH4 := Lib.hid (HH3.out.up HS4.out)
 have HX4 := Lib.hid (HX3.out.up HS4.out)
 clear hb4
 go_wp2_with fail
 go_ret2
 exact ⟨rfl, HB4.out⟩
def agreeErr (E : Int) (n : Nat) (xs : List Int) : Int := if E = 0 then listErr n xs else E
def agreeRes (miss V : Int) (hs : List Hf) (xs : List Int) : Bool := if V = 0 then !(boundsOf miss (fun i => xs.contains (i : Int)) hs).empty else false
theorem Agree_tot {E V : Int} {R : Bool} (err miss full emp : Int) (G H : Option Addr) (d q : Nat) (gs : List Gr) (hs : List Hf) (A : Option Addr) (c : Nat) (xs : List Int) (w : World) (hG : GradesAt w G gs) (hgl : gs.length ≤ 1000) (hA : HandsAt w H hs) (hl : hs.length ≤ 1000) (hX : IntsAt w A xs) (hlx : xs.length ≤ 1000) (hE : E = bothErr err miss gs full emp hs) (hV : V = agreeErr E hs.length xs) (hR : R = agreeRes miss V hs xs) :
  Calls Try.prog 51 #[.agg #[.int .i64 err, .int .i64 miss, .slice G gs.length d], .agg #[.int .i64 full, .int .i64 emp, .slice H hs.length q], .slice A xs.length c] w fun e w' => e = .returned (.tuple #[.bool R, .int .i64 V]) ∧ Below w.heap.size w w' := by
 by_cases h : E = 0
 ·have he : bothErr err miss gs full emp hs = 0 := hE.symm.trans h
  have hv : V = listErr hs.length xs := by rw [hV, agreeErr, if_pos h]
  cases hal : xs.all (fun x => within x 0 ((hs.length : Int) - 1)) with
  | false =>
   have h1 : V = 1 := by rw [hv, listErr, hal]; rfl
   rw [hR, agreeRes, h1, if_neg (by decide)]
   exact Agree_not err miss full emp G H d q gs hs A c xs w hG hgl hA hl he hX hlx hal
  | true =>
   cases htw : twice xs with
   | true =>
    have h1 : V = 5 := by rw [hv, listErr, hal, htw]; rfl
    rw [hR, agreeRes, h1, if_neg (by decide)]
    exact Agree_twice err miss full emp G H d q gs hs A c xs w hG hgl hA hl he hX hlx hal htw
   | false =>
    have h1 : V = 0 := by rw [hv, listErr, hal, htw]; rfl
    rw [hR, agreeRes, h1, if_pos rfl]
    exact Agree_in err miss full emp G H d q gs hs A c xs w hG hgl hA hl he hX hlx (List.all_eq_true.1 hal) htw
 ·have h1 : V = bothErr err miss gs full emp hs := by rw [hV, agreeErr, if_neg h, hE]
  have h2 : V ≠ 0 := fun e => h (hE.trans (h1.symm.trans e))
  rw [hR, agreeRes, if_neg h2, h1]
  exact Agree_err err miss full emp G H d q gs hs A c xs w hG hgl hA hl (fun e => h (hE.trans e))
end Go.Proofs.Ytifffonoipapgaa
