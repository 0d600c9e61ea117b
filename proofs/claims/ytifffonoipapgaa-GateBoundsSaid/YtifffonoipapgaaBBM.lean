
import Derived.Test.YtifffonoipapgaaLAA
import Derived.Test.YtifffonoipapgaaBAC
import Derived.Test.YtifffonoipapgaaBBF
import Derived.Test.YtifffonoipapgaaBBG
import Derived.Test.YtifffonoipapgaaBBI
import Derived.Test.YtifffonoipapgaaBBJ
import Derived.Test.YtifffonoipapgaaBBK
import Derived.Test.YtifffonoipapgaaBBL
set_option linter.unusedSimpArgs false
set_option linter.unusedVariables false
namespace Go.Proofs.Ytifffonoipapgaa
open Go.RowKit
theorem isKind_bel (k : Int) (w : World) : Calls Try.prog 100 #[.int .i64 k] w fun e w' => e = .returned (.bool (decide (0 ≤ k) && decide (k ≤ 3))) ∧ Below w.heap.size w w' := (isKind_any k w).mono fun e w' h => ⟨h.1, Below.of_eq h.2⟩
theorem zp8 {p : Prop} (h : p := by (repeat first | (with_reducible first | assumption | apply Holds.set2 | apply Holds.set4 | apply Holds.putL | ((refine Holds.new' _ _ ?_); (simp; done)) | refine Holds.alloc ?_ _ | refine Holds.drew ?_ | refine Holds.far ?_ (by simp only [ne_eq]; omega) _) | rfl)) : p := h
set_option maxRecDepth 100000 in
set_option maxHeartbeats 8000000 in
theorem Lets_err (err miss : Int) (G : Option Addr) (d : Nat) (gs : List Gr) (full emp : Int) (A : Option Addr) (c : Nat) (hs : List Hf) (w : World) (hG : GradesAt w G gs) (hgl : gs.length ≤ 1000) (hA : HandsAt w A hs) (hl : hs.length ≤ 1000) (i k : Int) (he : bothErr err miss gs full emp hs ≠ 0) :
  Calls Try.prog 38 #[.agg #[.int .i64 err, .int .i64 miss, .slice G gs.length d], .agg #[.int .i64 full, .int .i64 emp, .slice A hs.length c], .int .i64 i, .int .i64 k] w fun e w' => e = .returned (.tuple #[.agg #[.int .i64 0, .int .i64 0], .int .i64 (bothErr err miss gs full emp hs)]) ∧ Below w.heap.size w w' := by
 have HG := Lib.hid hG
 have HA := Lib.hid hA
 have HE := Lib.hid he
 clear hG hA
 have hq : (bothErr err miss gs full emp hs != 0) = true := by simpa using he
 clear he
 go_enter Try.func38, Try.ntmps38
 go_wp2_with fail
 refine (arrive_err err miss full emp G A d c gs hs _ (HG.out.up zg) hgl (HA.out.up zg) hl HE.out).mono ?_
 rintro e wa ⟨rfl, hba⟩
 have Hra := Lib.hid (Holds.up (zp8 : Holds _ (w.heap.size + 1 + 1) 60 #[.int .i64 0, .int .i64 0]) hba)
 have HSa : Hid (Below w.heap.size w wa) := Lib.hid (Below.trans zg (hba.mono (by first | exact Nat.le_refl _ | omega | (simp; done) | (simp; omega))))
 have HBa := HSa
 have hsa := HBa.out.size
 have hsta := HSa.out.size
 clear hba
 obtain ⟨kr0, kr1⟩ := Hra.out.c2
 obtain ⟨zr0, zr1⟩ := Hra.out.f2
 have lt_r : w.heap.size + 1 + 1 < wa.heap.size := Hra.out.lt
 have lt_r1 : w.heap.size + 1 + 1 < wa.heap.size + 1 := Nat.lt_succ_of_lt lt_r
 go_wp2_with fail
 refine ret_cell2 (t := 60) rfl rfl rfl ?_ Try.underlying60 rfl (by kernel_rfl) rfl ⟨rfl, HBa.out.trans zg⟩
 exact (by have h := Hra.out; exact zp8)
set_option maxRecDepth 100000 in
set_option maxHeartbeats 8000000 in
theorem Weight_err (err miss : Int) (G : Option Addr) (d : Nat) (gs : List Gr) (full emp : Int) (A : Option Addr) (c : Nat) (hs : List Hf) (w : World) (hG : GradesAt w G gs) (hgl : gs.length ≤ 1000) (hA : HandsAt w A hs) (hl : hs.length ≤ 1000) (k : Int) (he : bothErr err miss gs full emp hs ≠ 0) :
  Calls Try.prog 45 #[.agg #[.int .i64 err, .int .i64 miss, .slice G gs.length d], .agg #[.int .i64 full, .int .i64 emp, .slice A hs.length c], .int .i64 k] w fun e w' => e = .returned (.tuple #[.agg #[.int .i64 0, .int .i64 0], .int .i64 (bothErr err miss gs full emp hs)]) ∧ Below w.heap.size w w' := by
 have HG := Lib.hid hG
 have HA := Lib.hid hA
 have HE := Lib.hid he
 clear hG hA
 have hq : (bothErr err miss gs full emp hs != 0) = true := by simpa using he
 clear he
 go_enter Try.func45, Try.ntmps45
 go_wp2_with fail
 refine (arrive_err err miss full emp G A d c gs hs _ (HG.out.up zg) hgl (HA.out.up zg) hl HE.out).mono ?_
 rintro e wa ⟨rfl, hba⟩
 have Hra := Lib.hid (Holds.up (zp8 : Holds _ (w.heap.size + 1 + 1) 60 #[.int .i64 0, .int .i64 0]) hba)
 have HSa : Hid (Below w.heap.size w wa) := Lib.hid (Below.trans zg (hba.mono (by first | exact Nat.le_refl _ | omega | (simp; done) | (simp; omega))))
 have HBa := HSa
 have hsa := HBa.out.size
 have hsta := HSa.out.size
 clear hba
 obtain ⟨kr0, kr1⟩ := Hra.out.c2
 obtain ⟨zr0, zr1⟩ := Hra.out.f2
 have lt_r : w.heap.size + 1 + 1 < wa.heap.size := Hra.out.lt
 have lt_r1 : w.heap.size + 1 + 1 < wa.heap.size + 1 := Nat.lt_succ_of_lt lt_r
 go_wp2_with fail
 refine ret_cell2 (t := 60) rfl rfl rfl ?_ Try.underlying60 rfl (by kernel_rfl) rfl ⟨rfl, HBa.out.trans zg⟩
 exact (by have h := Hra.out; exact zp8)
set_option maxRecDepth 100000 in
set_option maxHeartbeats 8000000 in
theorem Mixture_err (err miss : Int) (G : Option Addr) (d : Nat) (gs : List Gr) (full emp : Int) (A : Option Addr) (c : Nat) (hs : List Hf) (w : World) (hG : GradesAt w G gs) (hgl : gs.length ≤ 1000) (hA : HandsAt w A hs) (hl : hs.length ≤ 1000)  (he : bothErr err miss gs full emp hs ≠ 0) :
  Calls Try.prog 44 #[.agg #[.int .i64 err, .int .i64 miss, .slice G gs.length d], .agg #[.int .i64 full, .int .i64 emp, .slice A hs.length c]] w fun e w' => e = .returned (.tuple #[.agg #[.int .i64 0, .int .i64 0, .int .i64 0, .int .i64 0], .int .i64 (bothErr err miss gs full emp hs)]) ∧ Below w.heap.size w w' := by
 have HG := Lib.hid hG
 have HA := Lib.hid hA
 have HE := Lib.hid he
 clear hG hA
 have hq : (bothErr err miss gs full emp hs != 0) = true := by simpa using he
 clear he
 go_enter Try.func44, Try.ntmps44
 go_wp2_with fail
 refine (arriveFitting_err err miss full emp G A d c gs hs _ (HG.out.up zg) hgl (HA.out.up zg) hl HE.out).mono ?_
 rintro e wa ⟨rfl, hba⟩
 have Hra := Lib.hid (Holds.up (zp8 : Holds _ (w.heap.size + 1 + 1) 28 #[.int .i64 0, .int .i64 0, .int .i64 0, .int .i64 0]) hba)
 have HSa : Hid (Below w.heap.size w wa) := Lib.hid (Below.trans zg (hba.mono (by first | exact Nat.le_refl _ | omega | (simp; done) | (simp; omega))))
 have HBa := HSa
 have hsa := HBa.out.size
 have hsta := HSa.out.size
 clear hba
 obtain ⟨kr0, kr1, kr2, kr3⟩ := Hra.out.c4
 obtain ⟨zr0, zr1, zr2, zr3⟩ := Hra.out.f4
 have lt_r : w.heap.size + 1 + 1 < wa.heap.size := Hra.out.lt
 have lt_r1 : w.heap.size + 1 + 1 < wa.heap.size + 1 := Nat.lt_succ_of_lt lt_r
 go_wp2_with fail
 refine ret_cell2 (t := 28) rfl rfl rfl ?_ Try.underlying28 rfl (by kernel_rfl) rfl ⟨rfl, HBa.out.trans zg⟩
 exact (by have h := Hra.out; exact zp8)
set_option maxRecDepth 100000 in
set_option maxHeartbeats 8000000 in
theorem Lets_not (err miss : Int) (G : Option Addr) (d : Nat) (gs : List Gr) (full emp : Int) (A : Option Addr) (c : Nat) (hs : List Hf) (w : World) (hG : GradesAt w G gs) (hgl : gs.length ≤ 1000) (hA : HandsAt w A hs) (hl : hs.length ≤ 1000) (i k : Int) (he : bothErr err miss gs full emp hs = 0) (hno : (within i 0 ((hs.length : Int) - 1) && (decide (0 ≤ k) && decide (k ≤ 3))) = false) :
  Calls Try.prog 38 #[.agg #[.int .i64 err, .int .i64 miss, .slice G gs.length d], .agg #[.int .i64 full, .int .i64 emp, .slice A hs.length c], .int .i64 i, .int .i64 k] w fun e w' => e = .returned (.tuple #[.agg #[.int .i64 0, .int .i64 0], .int .i64 1]) ∧ Below w.heap.size w w' := by
 have HG := Lib.hid hG
 have HA := Lib.hid hA
 have HE := Lib.hid he
 clear hG hA
 have hq : (bothErr err miss gs full emp hs != 0) = false := by simp [he]
 clear he
 obtain ⟨bi, hbi⟩ : ∃ z, z = within i 0 ((hs.length : Int) - 1) := ⟨_, rfl⟩
 have HBI := Lib.hid hbi
 obtain ⟨bk, hbk⟩ : ∃ z, z = (decide (0 ≤ k) && decide (k ≤ 3)) := ⟨_, rfl⟩
 have HBK := Lib.hid hbk
 have hno' : (bi && bk) = false := by rw [hbi, hbk]; exact hno
 clear hbi hbk hno
 cases bi with
 | false =>
  go_enter Try.func38, Try.ntmps38
  go_wp2_with fail
  refine (arrive_at err miss full emp G A d c gs hs _ (HG.out.up zg) hgl (HA.out.up zg) hl HE.out).mono ?_
  rintro e wa ⟨rfl, hba⟩
  have Hra := Lib.hid (Holds.up (zp8 : Holds _ (w.heap.size + 1 + 1) 60 #[.int .i64 0, .int .i64 0]) hba)
  have HSa : Hid (Below w.heap.size w wa) := Lib.hid (Below.trans zg (hba.mono (by first | exact Nat.le_refl _ | omega | (simp; done) | (simp; omega))))
  have HBa := HSa
  have hsa := HBa.out.size
  have hsta := HSa.out.size
  have HGa := Lib.hid (HG.out.up HSa.out)
  have HAa := Lib.hid (HA.out.up HSa.out)
  clear hba
  obtain ⟨kr0, kr1⟩ := Hra.out.c2
  obtain ⟨zr0, zr1⟩ := Hra.out.f2
  have lt_r : w.heap.size + 1 + 1 < wa.heap.size := Hra.out.lt
  go_wp2_with fail
  refine (hasHandful_any full emp A hs.length c i _ hl).mono ?_
  rw [← HBI.out]
  rintro e wb ⟨rfl, hbb⟩
  have Hrb := Lib.hid (Holds.up (by have h := Hra.out; exact zp8 : Holds _ (w.heap.size + 1 + 1) 60 #[.int .i64 0, .int .i64 0]) hbb)
  have HSb : Hid (Below wa.heap.size wa wb) := Lib.hid (Below.trans zg (hbb.mono (by first | exact Nat.le_refl _ | omega | (simp; done) | (simp; omega))))
  have HBb : Hid (Below w.heap.size w wb) := Lib.hid (HBa.out.trans (HSb.out.mono hsa))
  have hsb := HBb.out.size
  have hstb := HSb.out.size
  have HGb := Lib.hid (HGa.out.up HSb.out)
  have HAb := Lib.hid (HAa.out.up HSb.out)
  clear hbb
  clear kr0 kr1 zr0 zr1 lt_r
  obtain ⟨kr0, kr1⟩ := Hrb.out.c2
  obtain ⟨zr0, zr1⟩ := Hrb.out.f2
  have lt_r : w.heap.size + 1 + 1 < wb.heap.size := Hrb.out.lt
  go_wp2_with fail
  refine ret_cell2 (t := 60) rfl rfl rfl ?_ Try.underlying60 rfl (by kernel_rfl) rfl ⟨rfl, HBb.out.trans zg⟩
  exact (by have h := Hrb.out; exact zp8)
 | true =>
  cases bk with
  | true => cases hno'
  | false =>
   go_enter Try.func38, Try.ntmps38
   go_wp2_with fail
   refine (arrive_at err miss full emp G A d c gs hs _ (HG.out.up zg) hgl (HA.out.up zg) hl HE.out).mono ?_
   rintro e wa ⟨rfl, hba⟩
   have Hra := Lib.hid (Holds.up (zp8 : Holds _ (w.heap.size + 1 + 1) 60 #[.int .i64 0, .int .i64 0]) hba)
   have HSa : Hid (Below w.heap.size w wa) := Lib.hid (Below.trans zg (hba.mono (by first | exact Nat.le_refl _ | omega | (simp; done) | (simp; omega))))
   have HBa := HSa
   have hsa := HBa.out.size
   have hsta := HSa.out.size
   have HGa := Lib.hid (HG.out.up HSa.out)
   have HAa := Lib.hid (HA.out.up HSa.out)
   clear hba
   obtain ⟨kr0, kr1⟩ := Hra.out.c2
   obtain ⟨zr0, zr1⟩ := Hra.out.f2
   have lt_r : w.heap.size + 1 + 1 < wa.heap.size := Hra.out.lt
   go_wp2_with fail
   refine (hasHandful_any full emp A hs.length c i _ hl).mono ?_
   rw [← HBI.out]
   rintro e wb ⟨rfl, hbb⟩
   have Hrb := Lib.hid (Holds.up (by have h := Hra.out; exact zp8 : Holds _ (w.heap.size + 1 + 1) 60 #[.int .i64 0, .int .i64 0]) hbb)
   have HSb : Hid (Below wa.heap.size wa wb) := Lib.hid (Below.trans zg (hbb.mono (by first | exact Nat.le_refl _ | omega | (simp; done) | (simp; omega))))
   have HBb : Hid (Below w.heap.size w wb) := Lib.hid (HBa.out.trans (HSb.out.mono hsa))
   have hsb := HBb.out.size
   have hstb := HSb.out.size
   have HGb := Lib.hid (HGa.out.up HSb.out)
   have HAb := Lib.hid (HAa.out.up HSb.out)
   clear hbb
   clear kr0 kr1 zr0 zr1 lt_r
   obtain ⟨kr0, kr1⟩ := Hrb.out.c2
   obtain ⟨zr0, zr1⟩ := Hrb.out.f2
   have lt_r : w.heap.size + 1 + 1 < wb.heap.size := Hrb.out.lt
   go_wp2_with fail
   refine (isKind_bel _ _).mono ?_
   rw [← HBK.out]
   rintro e wc ⟨rfl, hbc⟩
   have Hrc := Lib.hid (Holds.up (by have h := Hrb.out; exact zp8 : Holds _ (w.heap.size + 1 + 1) 60 #[.int .i64 0, .int .i64 0]) hbc)
   have HSc : Hid (Below wb.heap.size wb wc) := Lib.hid (Below.trans zg (hbc.mono (by first | exact Nat.le_refl _ | omega | (simp; done) | (simp; omega))))
   have HBc : Hid (Below w.heap.size w wc) := Lib.hid (HBb.out.trans (HSc.out.mono hsb))
   have hsc := HBc.out.size
   have hstc := HSc.out.size
   have HGc := Lib.hid (HGb.out.up HSc.out)
   have HAc := Lib.hid (HAb.out.up HSc.out)
   clear hbc
   clear kr0 kr1 zr0 zr1 lt_r
   obtain ⟨kr0, kr1⟩ := Hrc.out.c2
   obtain ⟨zr0, zr1⟩ := Hrc.out.f2
   have lt_r : w.heap.size + 1 + 1 < wc.heap.size := Hrc.out.lt
   go_wp2_with fail
   refine ret_cell2 (t := 60) rfl rfl rfl ?_ Try.underlying60 rfl (by kernel_rfl) rfl ⟨rfl, HBc.out.trans zg⟩
   exact (by have h := Hrc.out; exact zp8)
set_option maxRecDepth 100000 in
set_option maxHeartbeats 8000000 in
theorem Fits_err (err miss : Int) (G : Option Addr) (d : Nat) (gs : List Gr) (full emp : Int) (A : Option Addr) (c : Nat) (hs : List Hf) (w : World) (hG : GradesAt w G gs) (hgl : gs.length ≤ 1000) (hA : HandsAt w A hs) (hl : hs.length ≤ 1000) (m0 m1 m2 m3 : Int) (he : bothErr err miss gs full emp hs ≠ 0) :
  Calls Try.prog 39 #[.agg #[.int .i64 err, .int .i64 miss, .slice G gs.length d], .agg #[.int .i64 full, .int .i64 emp, .slice A hs.length c], .agg #[.int .i64 m0, .int .i64 m1, .int .i64 m2, .int .i64 m3]] w fun e w' => e = .returned (.tuple #[.bool false, .int .i64 (bothErr err miss gs full emp hs)]) ∧ Below w.heap.size w w' := by
 have HG := Lib.hid hG
 have HA := Lib.hid hA
 have HE := Lib.hid he
 clear hG hA
 have hq : (bothErr err miss gs full emp hs != 0) = true := by simpa using he
 clear he
 go_enter Try.func39, Try.ntmps39
 go_wp2_with fail
 refine (arrive_err err miss full emp G A d c gs hs _ (HG.out.up zg) hgl (HA.out.up zg) hl HE.out).mono ?_
 rintro e wa ⟨rfl, hba⟩
 have HSa : Hid (Below w.heap.size w wa) := Lib.hid (Below.trans zg (hba.mono (by first | exact Nat.le_refl _ | omega | (simp; done) | (simp; omega))))
 have HBa := HSa
 have hsa := HBa.out.size
 have hsta := HSa.out.size
 clear hba
 go_wp2_with fail
 go_ret2
 exact ⟨rfl, HBa.out.trans zg⟩
set_option maxRecDepth 100000 in
set_option maxHeartbeats 8000000 in
theorem Fits_mix (err miss : Int) (G : Option Addr) (d : Nat) (gs : List Gr) (full emp : Int) (A : Option Addr) (c : Nat) (hs : List Hf) (w : World) (hG : GradesAt w G gs) (hgl : gs.length ≤ 1000) (hA : HandsAt w A hs) (hl : hs.length ≤ 1000) (m0 m1 m2 m3 : Int) (he : bothErr err miss gs full emp hs = 0) (hm : mixErr m0 m1 m2 m3 ≠ 0) :
  Calls Try.prog 39 #[.agg #[.int .i64 err, .int .i64 miss, .slice G gs.length d], .agg #[.int .i64 full, .int .i64 emp, .slice A hs.length c], .agg #[.int .i64 m0, .int .i64 m1, .int .i64 m2, .int .i64 m3]] w fun e w' => e = .returned (.tuple #[.bool false, .int .i64 (mixErr m0 m1 m2 m3)]) ∧ Below w.heap.size w w' := by
 have HG := Lib.hid hG
 have HA := Lib.hid hA
 have HE := Lib.hid he
 clear hG hA
 have hq : (bothErr err miss gs full emp hs != 0) = false := by simp [he]
 clear he
 obtain ⟨E, hE⟩ : ∃ z, z = mixErr m0 m1 m2 m3 := ⟨_, rfl⟩
 rw [← hE] at hm ⊢
 have HME := Lib.hid hE
 have hq2 : (E != 0) = true := by simpa using hm
 clear hE hm
 go_enter Try.func39, Try.ntmps39
 go_wp2_with fail
 refine (arrive_at err miss full emp G A d c gs hs _ (HG.out.up zg) hgl (HA.out.up zg) hl HE.out).mono ?_
 rintro e wa ⟨rfl, hba⟩
 have Hma := Lib.hid (Holds.up (zp4 : Holds _ (w.heap.size + 1 + 1) 28 #[.int .i64 m0, .int .i64 m1, .int .i64 m2, .int .i64 m3]) hba)
 have HSa : Hid (Below w.heap.size w wa) := Lib.hid (Below.trans zg (hba.mono (by first | exact Nat.le_refl _ | omega | (simp; done) | (simp; omega))))
 have HBa := HSa
 have hsa := HBa.out.size
 have hsta := HSa.out.size
 clear hba
 obtain ⟨km0, km1, km2, km3⟩ := Hma.out.c4
 have lt_m : w.heap.size + 1 + 1 < wa.heap.size := Hma.out.lt
 go_wp2_with fail
 refine (checkMixture_any m0 m1 m2 m3 _).mono ?_
 rw [← HME.out]
 rintro e wb ⟨rfl, hbb⟩
 have Hmb := Lib.hid (Holds.up (by have h := Hma.out; exact zp4 : Holds _ (w.heap.size + 1 + 1) 28 #[.int .i64 m0, .int .i64 m1, .int .i64 m2, .int .i64 m3]) hbb)
 have HSb : Hid (Below wa.heap.size wa wb) := Lib.hid (Below.trans zg (hbb.mono (by first | exact Nat.le_refl _ | omega | (simp; done) | (simp; omega))))
 have HBb : Hid (Below w.heap.size w wb) := Lib.hid (HBa.out.trans (HSb.out.mono hsa))
 have hsb := HBb.out.size
 have hstb := HSb.out.size
 clear hbb
 clear km0 km1 km2 km3 lt_m
 go_wp2_with fail
 go_ret2
 exact ⟨rfl, HBb.out.trans zg⟩
set_option maxRecDepth 100000 in
set_option maxHeartbeats 8000000 in
theorem Has_err (err miss : Int) (G : Option Addr) (d : Nat) (gs : List Gr) (w : World) (hG : GradesAt w G gs) (hgl : gs.length ≤ 1000) (m0 m1 m2 m3 : Int) (he : gateErr err miss gs ≠ 0) :
  Calls Try.prog 40 #[.agg #[.int .i64 err, .int .i64 miss, .slice G gs.length d], .agg #[.int .i64 m0, .int .i64 m1, .int .i64 m2, .int .i64 m3]] w fun e w' => e = .returned (.tuple #[.int .i64 0, .int .i64 (gateErr err miss gs)]) ∧ Below w.heap.size w w' := by
 have HG := Lib.hid hG
 clear hG
 obtain ⟨E, hE⟩ : ∃ z, z = gateErr err miss gs := ⟨_, rfl⟩
 rw [← hE] at he ⊢
 have HE := Lib.hid hE
 have hq : (E != 0) = true := by simpa using he
 clear hE he
 go_enter Try.func40, Try.ntmps40
 go_wp2_with fail
 refine (Check_any err miss G d gs _ (HG.out.up zg) hgl).mono ?_
 rw [← HE.out]
 rintro e wa ⟨rfl, hba⟩
 have HSa : Hid (Below w.heap.size w wa) := Lib.hid (Below.trans zg (hba.mono (by first | exact Nat.le_refl _ | omega | (simp; done) | (simp; omega))))
 have HBa := HSa
 have hsa := HBa.out.size
 have hsta := HSa.out.size
 clear hba
 go_wp2_with fail
 go_ret2
 exact ⟨rfl, HBa.out.trans zg⟩
set_option maxRecDepth 100000 in
set_option maxHeartbeats 8000000 in
theorem Has_mix (err miss : Int) (G : Option Addr) (d : Nat) (gs : List Gr) (w : World) (hG : GradesAt w G gs) (hgl : gs.length ≤ 1000) (m0 m1 m2 m3 : Int) (he : gateErr err miss gs = 0) (hm : mixErr m0 m1 m2 m3 ≠ 0) :
  Calls Try.prog 40 #[.agg #[.int .i64 err, .int .i64 miss, .slice G gs.length d], .agg #[.int .i64 m0, .int .i64 m1, .int .i64 m2, .int .i64 m3]] w fun e w' => e = .returned (.tuple #[.int .i64 0, .int .i64 (mixErr m0 m1 m2 m3)]) ∧ Below w.heap.size w w' := by
 have HG := Lib.hid hG
 have HE := Lib.hid he
 clear hG he
 obtain ⟨E, hE⟩ : ∃ z, z = mixErr m0 m1 m2 m3 := ⟨_, rfl⟩
 rw [← hE] at hm ⊢
 have HME := Lib.hid hE
 have hq2 : (E != 0) = true := by simpa using hm
 clear hE hm
 go_enter Try.func40, Try.ntmps40
 go_wp2_with fail
 refine (Check_any err miss G d gs _ (HG.out.up zg) hgl).mono ?_
 rw [HE.out]
 rintro e wa ⟨rfl, hba⟩
 have Hma := Lib.hid (Holds.up (zp4 : Holds _ (w.heap.size + 1) 28 #[.int .i64 m0, .int .i64 m1, .int .i64 m2, .int .i64 m3]) hba)
 have HSa : Hid (Below w.heap.size w wa) := Lib.hid (Below.trans zg (hba.mono (by first | exact Nat.le_refl _ | omega | (simp; done) | (simp; omega))))
 have HBa := HSa
 have hsa := HBa.out.size
 have hsta := HSa.out.size
 clear hba
 obtain ⟨km0, km1, km2, km3⟩ := Hma.out.c4
 have lt_m : w.heap.size + 1 < wa.heap.size := Hma.out.lt
 go_wp2_with fail
 refine (checkMixture_any m0 m1 m2 m3 _).mono ?_
 rw [← HME.out]
 rintro e wb ⟨rfl, hbb⟩
 have Hmb := Lib.hid (Holds.up (by have h := Hma.out; exact zp4 : Holds _ (w.heap.size + 1) 28 #[.int .i64 m0, .int .i64 m1, .int .i64 m2, .int .i64 m3]) hbb)
 have HSb : Hid (Below wa.heap.size wa wb) := Lib.hid (Below.trans zg (hbb.mono (by first | exact Nat.le_refl _ | omega | (simp; done) | (simp; omega))))
 have HBb : Hid (Below w.heap.size w wb) := Lib.hid (HBa.out.trans (HSb.out.mono hsa))
 have hsb := HBb.out.size
 have hstb := HSb.out.size
 clear hbb
 clear km0 km1 km2 km3 lt_m
 go_wp2_with fail
 go_ret2
 exact ⟨rfl, HBb.out.trans zg⟩

end Go.Proofs.Ytifffonoipapgaa
