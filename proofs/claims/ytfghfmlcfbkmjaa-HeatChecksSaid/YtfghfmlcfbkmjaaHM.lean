/- Package heat's Rises, Left and Lasts, and the reference's Left and Lasts. -/
import Derived.Test.YtfghfmlcfbkmjaaHK
set_option linter.unusedSimpArgs false
set_option linter.unusedVariables false
namespace Go.Proofs.Ytfghfmlcfbkmjaa
open Go.RowKit

set_option maxRecDepth 100000 in
set_option maxHeartbeats 4000000 in
theorem Rises_err (b : Br) (A : Option Addr) (c : Nat) (bs : List Bn) (w : World) (hA : BinsAt w A bs) (hl : bs.length ≤ 1000) (bin : Int) (he : binErr b bs bin ≠ 0) :
    Calls Try.prog 17 #[.agg #[.int .i64 b.cool, .int .i64 b.gangs, .int .i64 b.r0, .int .i64 b.r1, .int .i64 b.r2, .int .i64 b.r3, .int .i64 b.r4, .int .i64 b.r5, .slice A bs.length c], .int .i64 bin] w fun e w' => e = .returned (.tuple #[.agg #[.int .i64 0, .int .i64 0], .int .i64 (binErr b bs bin)]) ∧ Below w.heap.size w w' := by
  have HA := Lib.hid hA
  clear hA
  obtain ⟨E, hE⟩ : ∃ z, binErr b bs bin = z := ⟨_, rfl⟩
  rw [hE] at he ⊢
  have HE := Lib.hid hE
  have hq : (E != 0) = true := by simpa using he
  have hq2 : (E == 0) = false := by simpa using he
  clear hE
  go_enter Try.func17, Try.ntmps17
  go_wp2_with fail
  refine (checkBin_any b A c bs bin _ (HA.out.up (by (repeat' (first | (with_reducible exact Below.refl _ _) | (with_reducible assumption) | (with_reducible refine Below.alloc ?_ ?_ _) | (with_reducible refine Below.drew ?_) | (with_reducible refine Below.setCell ?_ ?_ _) | (with_reducible exact Nat.le_refl _) | omega | (simp only [World.size_alloc, World.size_setCell, World.size_drew]; omega) | (simp; omega) | (simp; done))))) hl).mono ?_
  rw [HE.out]
  rintro e w1 ⟨rfl, hb1⟩
  have Hb1 := Lib.hid (Holds.up (by (repeat first | (with_reducible assumption) | (with_reducible apply Holds.set4) | (with_reducible apply Holds.set2) | (with_reducible apply Holds.putL) | ((with_reducible refine Holds.new' _ _ ?_); (simp; done)) | (with_reducible refine Holds.alloc ?_ _) | (with_reducible refine Holds.drew ?_) | ((with_reducible refine Holds.far ?_ (by simp only [ne_eq]; omega) _)) | rfl) : Holds _ (w.heap.size) 25 #[.int .i64 b.cool, .int .i64 b.gangs, .int .i64 b.r0, .int .i64 b.r1, .int .i64 b.r2, .int .i64 b.r3, .int .i64 b.r4, .int .i64 b.r5, .slice A bs.length c]) hb1)
  have Hr1 := Lib.hid (Holds.up (by (repeat first | (with_reducible assumption) | (with_reducible apply Holds.set4) | (with_reducible apply Holds.set2) | (with_reducible apply Holds.putL) | ((with_reducible refine Holds.new' _ _ ?_); (simp; done)) | (with_reducible refine Holds.alloc ?_ _) | (with_reducible refine Holds.drew ?_) | ((with_reducible refine Holds.far ?_ (by simp only [ne_eq]; omega) _)) | rfl) : Holds _ (w.heap.size + 1) 27 #[.int .i64 0, .int .i64 0]) hb1)
  have HS1 : Hid (Below w.heap.size w w1) := Lib.hid (Below.trans (by (repeat' (first | (with_reducible exact Below.refl _ _) | (with_reducible assumption) | (with_reducible refine Below.alloc ?_ ?_ _) | (with_reducible refine Below.drew ?_) | (with_reducible refine Below.setCell ?_ ?_ _) | (with_reducible exact Nat.le_refl _) | omega | (simp only [World.size_alloc, World.size_setCell, World.size_drew]; omega) | (simp; omega) | (simp; done)))) (hb1.mono (by first | exact Nat.le_refl _ | omega | (simp; done) | (simp; omega))))
  have HB1 := HS1
  have hs1 := HB1.out.size
  have hst1 := HS1.out.size
  have HA1 := Lib.hid (HA.out.up HS1.out)
  clear hb1
  have kb0 : w1.cell? ⟨w.heap.size, 0, none⟩ = some (.int .i64 b.cool) := Hb1.out.cell 0
  have kb1 : w1.cell? ⟨w.heap.size, 1, none⟩ = some (.int .i64 b.gangs) := Hb1.out.cell 1
  have kb2 : w1.cell? ⟨w.heap.size, 2, none⟩ = some (.int .i64 b.r0) := Hb1.out.cell 2
  have kb3 : w1.cell? ⟨w.heap.size, 3, none⟩ = some (.int .i64 b.r1) := Hb1.out.cell 3
  have kb4 : w1.cell? ⟨w.heap.size, 4, none⟩ = some (.int .i64 b.r2) := Hb1.out.cell 4
  have kb5 : w1.cell? ⟨w.heap.size, 5, none⟩ = some (.int .i64 b.r3) := Hb1.out.cell 5
  have kb6 : w1.cell? ⟨w.heap.size, 6, none⟩ = some (.int .i64 b.r4) := Hb1.out.cell 6
  have kb7 : w1.cell? ⟨w.heap.size, 7, none⟩ = some (.int .i64 b.r5) := Hb1.out.cell 7
  have kb8 : w1.cell? ⟨w.heap.size, 8, none⟩ = some (.slice A bs.length c) := Hb1.out.cell 8
  have lt_b : w.heap.size < w1.heap.size := Hb1.out.lt
  have kr0 : w1.cell? ⟨w.heap.size + 1, 0, none⟩ = some (.int .i64 0) := Hr1.out.cell 0
  have kr1 : w1.cell? ⟨w.heap.size + 1, 1, none⟩ = some (.int .i64 0) := Hr1.out.cell 1
  have zr0 : w1.frozen? ⟨w.heap.size + 1, 0, none⟩ = false := Hr1.out.frozen 0
  have zr1 : w1.frozen? ⟨w.heap.size + 1, 1, none⟩ = false := Hr1.out.frozen 1
  have lt_r : w.heap.size + 1 < w1.heap.size := Hr1.out.lt
  go_wp2_with fail
  refine ret_cell2 (t := 27) (cs := #[.int .i64 0, .int .i64 0]) rfl rfl rfl (Holds.set2 _ _ Hr1.out) Try.underlying27 rfl (by kernel_rfl) rfl ⟨rfl, HB1.out.trans (by (repeat' (first | (with_reducible exact Below.refl _ _) | (with_reducible assumption) | (with_reducible refine Below.alloc ?_ ?_ _) | (with_reducible refine Below.drew ?_) | (with_reducible refine Below.setCell ?_ ?_ _) | (with_reducible exact Nat.le_refl _) | omega | (simp only [World.size_alloc, World.size_setCell, World.size_drew]; omega) | (simp; omega) | (simp; done))))⟩
set_option maxRecDepth 100000 in
set_option maxHeartbeats 4000000 in
theorem Left_err (b : Br) (A : Option Addr) (c : Nat) (bs : List Bn) (w : World) (hA : BinsAt w A bs) (hl : bs.length ≤ 1000) (bin : Int) (he : binErr b bs bin ≠ 0) :
    Calls Try.prog 18 #[.agg #[.int .i64 b.cool, .int .i64 b.gangs, .int .i64 b.r0, .int .i64 b.r1, .int .i64 b.r2, .int .i64 b.r3, .int .i64 b.r4, .int .i64 b.r5, .slice A bs.length c], .int .i64 bin] w fun e w' => e = .returned (.tuple #[.int .i64 0, .int .i64 (binErr b bs bin)]) ∧ Below w.heap.size w w' := by
  have HA := Lib.hid hA
  clear hA
  obtain ⟨E, hE⟩ : ∃ z, binErr b bs bin = z := ⟨_, rfl⟩
  rw [hE] at he ⊢
  have HE := Lib.hid hE
  have hq : (E != 0) = true := by simpa using he
  have hq2 : (E == 0) = false := by simpa using he
  clear hE
  go_enter Try.func18, Try.ntmps18
  go_wp2_with fail
  refine (checkBin_any b A c bs bin _ (HA.out.up (by (repeat' (first | (with_reducible exact Below.refl _ _) | (with_reducible assumption) | (with_reducible refine Below.alloc ?_ ?_ _) | (with_reducible refine Below.drew ?_) | (with_reducible refine Below.setCell ?_ ?_ _) | (with_reducible exact Nat.le_refl _) | omega | (simp only [World.size_alloc, World.size_setCell, World.size_drew]; omega) | (simp; omega) | (simp; done))))) hl).mono ?_
  rw [HE.out]
  rintro e w1 ⟨rfl, hb1⟩
  have Hb1 := Lib.hid (Holds.up (by (repeat first | (with_reducible assumption) | (with_reducible apply Holds.set4) | (with_reducible apply Holds.set2) | (with_reducible apply Holds.putL) | ((with_reducible refine Holds.new' _ _ ?_); (simp; done)) | (with_reducible refine Holds.alloc ?_ _) | (with_reducible refine Holds.drew ?_) | ((with_reducible refine Holds.far ?_ (by simp only [ne_eq]; omega) _)) | rfl) : Holds _ (w.heap.size) 25 #[.int .i64 b.cool, .int .i64 b.gangs, .int .i64 b.r0, .int .i64 b.r1, .int .i64 b.r2, .int .i64 b.r3, .int .i64 b.r4, .int .i64 b.r5, .slice A bs.length c]) hb1)
  have HS1 : Hid (Below w.heap.size w w1) := Lib.hid (Below.trans (by (repeat' (first | (with_reducible exact Below.refl _ _) | (with_reducible assumption) | (with_reducible refine Below.alloc ?_ ?_ _) | (with_reducible refine Below.drew ?_) | (with_reducible refine Below.setCell ?_ ?_ _) | (with_reducible exact Nat.le_refl _) | omega | (simp only [World.size_alloc, World.size_setCell, World.size_drew]; omega) | (simp; omega) | (simp; done)))) (hb1.mono (by first | exact Nat.le_refl _ | omega | (simp; done) | (simp; omega))))
  have HB1 := HS1
  have hs1 := HB1.out.size
  have hst1 := HS1.out.size
  have HA1 := Lib.hid (HA.out.up HS1.out)
  clear hb1
  have kb0 : w1.cell? ⟨w.heap.size, 0, none⟩ = some (.int .i64 b.cool) := Hb1.out.cell 0
  have kb1 : w1.cell? ⟨w.heap.size, 1, none⟩ = some (.int .i64 b.gangs) := Hb1.out.cell 1
  have kb2 : w1.cell? ⟨w.heap.size, 2, none⟩ = some (.int .i64 b.r0) := Hb1.out.cell 2
  have kb3 : w1.cell? ⟨w.heap.size, 3, none⟩ = some (.int .i64 b.r1) := Hb1.out.cell 3
  have kb4 : w1.cell? ⟨w.heap.size, 4, none⟩ = some (.int .i64 b.r2) := Hb1.out.cell 4
  have kb5 : w1.cell? ⟨w.heap.size, 5, none⟩ = some (.int .i64 b.r3) := Hb1.out.cell 5
  have kb6 : w1.cell? ⟨w.heap.size, 6, none⟩ = some (.int .i64 b.r4) := Hb1.out.cell 6
  have kb7 : w1.cell? ⟨w.heap.size, 7, none⟩ = some (.int .i64 b.r5) := Hb1.out.cell 7
  have kb8 : w1.cell? ⟨w.heap.size, 8, none⟩ = some (.slice A bs.length c) := Hb1.out.cell 8
  have lt_b : w.heap.size < w1.heap.size := Hb1.out.lt
  go_wp2_with fail
  refine ret_two rfl rfl ?_
  exact ⟨rfl, HB1.out⟩
set_option maxRecDepth 100000 in
set_option maxHeartbeats 4000000 in
theorem Lasts_err (b : Br) (A : Option Addr) (c : Nat) (bs : List Bn) (w : World) (hA : BinsAt w A bs) (hl : bs.length ≤ 1000) (bin : Int) (he : binErr b bs bin ≠ 0) :
    Calls Try.prog 19 #[.agg #[.int .i64 b.cool, .int .i64 b.gangs, .int .i64 b.r0, .int .i64 b.r1, .int .i64 b.r2, .int .i64 b.r3, .int .i64 b.r4, .int .i64 b.r5, .slice A bs.length c], .int .i64 bin] w fun e w' => e = .returned (.tuple #[.int .i64 0, .int .i64 (binErr b bs bin)]) ∧ Below w.heap.size w w' := by
  have HA := Lib.hid hA
  clear hA
  obtain ⟨E, hE⟩ : ∃ z, binErr b bs bin = z := ⟨_, rfl⟩
  rw [hE] at he ⊢
  have HE := Lib.hid hE
  have hq : (E != 0) = true := by simpa using he
  have hq2 : (E == 0) = false := by simpa using he
  clear hE
  go_enter Try.func19, Try.ntmps19
  go_wp2_with fail
  refine (checkBin_any b A c bs bin _ (HA.out.up (by (repeat' (first | (with_reducible exact Below.refl _ _) | (with_reducible assumption) | (with_reducible refine Below.alloc ?_ ?_ _) | (with_reducible refine Below.drew ?_) | (with_reducible refine Below.setCell ?_ ?_ _) | (with_reducible exact Nat.le_refl _) | omega | (simp only [World.size_alloc, World.size_setCell, World.size_drew]; omega) | (simp; omega) | (simp; done))))) hl).mono ?_
  rw [HE.out]
  rintro e w1 ⟨rfl, hb1⟩
  have Hb1 := Lib.hid (Holds.up (by (repeat first | (with_reducible assumption) | (with_reducible apply Holds.set4) | (with_reducible apply Holds.set2) | (with_reducible apply Holds.putL) | ((with_reducible refine Holds.new' _ _ ?_); (simp; done)) | (with_reducible refine Holds.alloc ?_ _) | (with_reducible refine Holds.drew ?_) | ((with_reducible refine Holds.far ?_ (by simp only [ne_eq]; omega) _)) | rfl) : Holds _ (w.heap.size) 25 #[.int .i64 b.cool, .int .i64 b.gangs, .int .i64 b.r0, .int .i64 b.r1, .int .i64 b.r2, .int .i64 b.r3, .int .i64 b.r4, .int .i64 b.r5, .slice A bs.length c]) hb1)
  have HS1 : Hid (Below w.heap.size w w1) := Lib.hid (Below.trans (by (repeat' (first | (with_reducible exact Below.refl _ _) | (with_reducible assumption) | (with_reducible refine Below.alloc ?_ ?_ _) | (with_reducible refine Below.drew ?_) | (with_reducible refine Below.setCell ?_ ?_ _) | (with_reducible exact Nat.le_refl _) | omega | (simp only [World.size_alloc, World.size_setCell, World.size_drew]; omega) | (simp; omega) | (simp; done)))) (hb1.mono (by first | exact Nat.le_refl _ | omega | (simp; done) | (simp; omega))))
  have HB1 := HS1
  have hs1 := HB1.out.size
  have hst1 := HS1.out.size
  have HA1 := Lib.hid (HA.out.up HS1.out)
  clear hb1
  have kb0 : w1.cell? ⟨w.heap.size, 0, none⟩ = some (.int .i64 b.cool) := Hb1.out.cell 0
  have kb1 : w1.cell? ⟨w.heap.size, 1, none⟩ = some (.int .i64 b.gangs) := Hb1.out.cell 1
  have kb2 : w1.cell? ⟨w.heap.size, 2, none⟩ = some (.int .i64 b.r0) := Hb1.out.cell 2
  have kb3 : w1.cell? ⟨w.heap.size, 3, none⟩ = some (.int .i64 b.r1) := Hb1.out.cell 3
  have kb4 : w1.cell? ⟨w.heap.size, 4, none⟩ = some (.int .i64 b.r2) := Hb1.out.cell 4
  have kb5 : w1.cell? ⟨w.heap.size, 5, none⟩ = some (.int .i64 b.r3) := Hb1.out.cell 5
  have kb6 : w1.cell? ⟨w.heap.size, 6, none⟩ = some (.int .i64 b.r4) := Hb1.out.cell 6
  have kb7 : w1.cell? ⟨w.heap.size, 7, none⟩ = some (.int .i64 b.r5) := Hb1.out.cell 7
  have kb8 : w1.cell? ⟨w.heap.size, 8, none⟩ = some (.slice A bs.length c) := Hb1.out.cell 8
  have lt_b : w.heap.size < w1.heap.size := Hb1.out.lt
  go_wp2_with fail
  refine ret_two rfl rfl ?_
  exact ⟨rfl, HB1.out⟩
set_option maxRecDepth 100000 in
set_option maxHeartbeats 4000000 in
theorem Rises_ok (b : Br) (A : Option Addr) (c : Nat) (bs : List Bn) (w : World) (hA : BinsAt w A bs) (hl : bs.length ≤ 1000) (hE : barnErr b bs = 0) (k : Nat) (x : Bn) (hx : bs[k]? = some x) :
    Calls Try.prog 17 #[.agg #[.int .i64 b.cool, .int .i64 b.gangs, .int .i64 b.r0, .int .i64 b.r1, .int .i64 b.r2, .int .i64 b.r3, .int .i64 b.r4, .int .i64 b.r5, .slice A bs.length c], .int .i64 (k : Int)] w fun e w' => e = .returned (.tuple #[.agg #[.int .i64 (b.rise x.lo), .int .i64 (b.rise x.hi)], .int .i64 0]) ∧ Below w.heap.size w w' := by
  have HA := Lib.hid hA
  clear hA
  have hin : within (k : Int) 0 ((bs.length : Int) - 1) = true := by simp only [within, Bool.and_eq_true, decide_eq_true_eq]; have := (List.getElem?_eq_some_iff.1 hx).1; omega
  have hbe := binErr_ok hE hin
  obtain ⟨l, m, hlo, hhi, hl6, hm6, -⟩ := good_bin hE hx
  rw [hlo, hhi]
  have HLO := Lib.hid hlo
  have HHI := Lib.hid hhi
  clear hlo hhi
  have HBE := Lib.hid hbe
  have HX := Lib.hid hx
  have HEE := Lib.hid hE
  clear hbe hx hE hin
  go_enter Try.func17, Try.ntmps17
  go_wp2_with fail
  refine (checkBin_any b A c bs (k : Int) _ (HA.out.up (by (repeat' (first | (with_reducible exact Below.refl _ _) | (with_reducible assumption) | (with_reducible refine Below.alloc ?_ ?_ _) | (with_reducible refine Below.drew ?_) | (with_reducible refine Below.setCell ?_ ?_ _) | (with_reducible exact Nat.le_refl _) | omega | (simp only [World.size_alloc, World.size_setCell, World.size_drew]; omega) | (simp; omega) | (simp; done))))) hl).mono ?_
  rw [HBE.out]
  rintro e w1 ⟨rfl, hb1⟩
  have Hb1 := Lib.hid (Holds.up (by (repeat first | (with_reducible assumption) | (with_reducible apply Holds.set4) | (with_reducible apply Holds.set2) | (with_reducible apply Holds.putL) | ((with_reducible refine Holds.new' _ _ ?_); (simp; done)) | (with_reducible refine Holds.alloc ?_ _) | (with_reducible refine Holds.drew ?_) | ((with_reducible refine Holds.far ?_ (by simp only [ne_eq]; omega) _)) | rfl) : Holds _ (w.heap.size) 25 #[.int .i64 b.cool, .int .i64 b.gangs, .int .i64 b.r0, .int .i64 b.r1, .int .i64 b.r2, .int .i64 b.r3, .int .i64 b.r4, .int .i64 b.r5, .slice A bs.length c]) hb1)
  have Hr1 := Lib.hid (Holds.up (by (repeat first | (with_reducible assumption) | (with_reducible apply Holds.set4) | (with_reducible apply Holds.set2) | (with_reducible apply Holds.putL) | ((with_reducible refine Holds.new' _ _ ?_); (simp; done)) | (with_reducible refine Holds.alloc ?_ _) | (with_reducible refine Holds.drew ?_) | ((with_reducible refine Holds.far ?_ (by simp only [ne_eq]; omega) _)) | rfl) : Holds _ (w.heap.size + 1) 27 #[.int .i64 0, .int .i64 0]) hb1)
  have HS1 : Hid (Below w.heap.size w w1) := Lib.hid (Below.trans (by (repeat' (first | (with_reducible exact Below.refl _ _) | (with_reducible assumption) | (with_reducible refine Below.alloc ?_ ?_ _) | (with_reducible refine Below.drew ?_) | (with_reducible refine Below.setCell ?_ ?_ _) | (with_reducible exact Nat.le_refl _) | omega | (simp only [World.size_alloc, World.size_setCell, World.size_drew]; omega) | (simp; omega) | (simp; done)))) (hb1.mono (by first | exact Nat.le_refl _ | omega | (simp; done) | (simp; omega))))
  have HB1 := HS1
  have hs1 := HB1.out.size
  have hst1 := HS1.out.size
  have HA1 := Lib.hid (HA.out.up HS1.out)
  clear hb1
  have kb0 : w1.cell? ⟨w.heap.size, 0, none⟩ = some (.int .i64 b.cool) := Hb1.out.cell 0
  have kb1 : w1.cell? ⟨w.heap.size, 1, none⟩ = some (.int .i64 b.gangs) := Hb1.out.cell 1
  have kb2 : w1.cell? ⟨w.heap.size, 2, none⟩ = some (.int .i64 b.r0) := Hb1.out.cell 2
  have kb3 : w1.cell? ⟨w.heap.size, 3, none⟩ = some (.int .i64 b.r1) := Hb1.out.cell 3
  have kb4 : w1.cell? ⟨w.heap.size, 4, none⟩ = some (.int .i64 b.r2) := Hb1.out.cell 4
  have kb5 : w1.cell? ⟨w.heap.size, 5, none⟩ = some (.int .i64 b.r3) := Hb1.out.cell 5
  have kb6 : w1.cell? ⟨w.heap.size, 6, none⟩ = some (.int .i64 b.r4) := Hb1.out.cell 6
  have kb7 : w1.cell? ⟨w.heap.size, 7, none⟩ = some (.int .i64 b.r5) := Hb1.out.cell 7
  have kb8 : w1.cell? ⟨w.heap.size, 8, none⟩ = some (.slice A bs.length c) := Hb1.out.cell 8
  have lt_b : w.heap.size < w1.heap.size := Hb1.out.lt
  have kr0 : w1.cell? ⟨w.heap.size + 1, 0, none⟩ = some (.int .i64 0) := Hr1.out.cell 0
  have kr1 : w1.cell? ⟨w.heap.size + 1, 1, none⟩ = some (.int .i64 0) := Hr1.out.cell 1
  have zr0 : w1.frozen? ⟨w.heap.size + 1, 0, none⟩ = false := Hr1.out.frozen 0
  have zr1 : w1.frozen? ⟨w.heap.size + 1, 1, none⟩ = false := Hr1.out.frozen 1
  have lt_r : w.heap.size + 1 < w1.heap.size := Hr1.out.lt
  go_wp2_with fail
  refine (rises_any b A c bs _ (HA1.out.up (by (repeat' (first | (with_reducible exact Below.refl _ _) | (with_reducible assumption) | (with_reducible refine Below.alloc ?_ ?_ _) | (with_reducible refine Below.drew ?_) | (with_reducible refine Below.setCell ?_ ?_ _) | (with_reducible exact Nat.le_refl _) | omega | (simp only [World.size_alloc, World.size_setCell, World.size_drew]; omega) | (simp; omega) | (simp; done))))) hl k x HX.out l m HLO.out HHI.out hl6 hm6).mono ?_
  rintro e w2 ⟨rfl, hb2⟩
  have Hb2 := Lib.hid (Holds.up (by have h := Hb1.out; exact (by (repeat first | (with_reducible assumption) | (with_reducible apply Holds.set4) | (with_reducible apply Holds.set2) | (with_reducible apply Holds.putL) | ((with_reducible refine Holds.new' _ _ ?_); (simp; done)) | (with_reducible refine Holds.alloc ?_ _) | (with_reducible refine Holds.drew ?_) | ((with_reducible refine Holds.far ?_ (by simp only [ne_eq]; omega) _)) | rfl)) : Holds _ (w.heap.size) 25 #[.int .i64 b.cool, .int .i64 b.gangs, .int .i64 b.r0, .int .i64 b.r1, .int .i64 b.r2, .int .i64 b.r3, .int .i64 b.r4, .int .i64 b.r5, .slice A bs.length c]) hb2)
  have Hr2 := Lib.hid (Holds.up (by have h := Hr1.out; exact (by (repeat first | (with_reducible assumption) | (with_reducible apply Holds.set4) | (with_reducible apply Holds.set2) | (with_reducible apply Holds.putL) | ((with_reducible refine Holds.new' _ _ ?_); (simp; done)) | (with_reducible refine Holds.alloc ?_ _) | (with_reducible refine Holds.drew ?_) | ((with_reducible refine Holds.far ?_ (by simp only [ne_eq]; omega) _)) | rfl)) : Holds _ (w.heap.size + 1) 27 #[.int .i64 0, .int .i64 0]) hb2)
  have HS2 : Hid (Below w1.heap.size w1 w2) := Lib.hid (Below.trans (by (repeat' (first | (with_reducible exact Below.refl _ _) | (with_reducible assumption) | (with_reducible refine Below.alloc ?_ ?_ _) | (with_reducible refine Below.drew ?_) | (with_reducible refine Below.setCell ?_ ?_ _) | (with_reducible exact Nat.le_refl _) | omega | (simp only [World.size_alloc, World.size_setCell, World.size_drew]; omega) | (simp; omega) | (simp; done)))) (hb2.mono (by first | exact Nat.le_refl _ | omega | (simp; done) | (simp; omega))))
  have HB2 : Hid (Below w.heap.size w w2) := Lib.hid (HB1.out.trans (HS2.out.mono hs1))
  have hs2 := HB2.out.size
  have hst2 := HS2.out.size
  have HA2 := Lib.hid (HA1.out.up HS2.out)
  clear hb2
  clear kb0 kb1 kb2 kb3 kb4 kb5 kb6 kb7 kb8 lt_b kr0 kr1 zr0 zr1 lt_r
  have kr0 : w2.cell? ⟨w.heap.size + 1, 0, none⟩ = some (.int .i64 0) := Hr2.out.cell 0
  have kr1 : w2.cell? ⟨w.heap.size + 1, 1, none⟩ = some (.int .i64 0) := Hr2.out.cell 1
  have zr0 : w2.frozen? ⟨w.heap.size + 1, 0, none⟩ = false := Hr2.out.frozen 0
  have zr1 : w2.frozen? ⟨w.heap.size + 1, 1, none⟩ = false := Hr2.out.frozen 1
  have lt_r : w.heap.size + 1 < w2.heap.size := Hr2.out.lt
  go_wp2_with fail
  refine ret_cell2 (t := 27) (cs := #[.int .i64 (b.rise l), .int .i64 (b.rise m)]) rfl rfl rfl (Holds.set2 _ _ Hr2.out) Try.underlying27 rfl (by kernel_rfl) rfl ⟨rfl, HB2.out.trans (by (repeat' (first | (with_reducible exact Below.refl _ _) | (with_reducible assumption) | (with_reducible refine Below.alloc ?_ ?_ _) | (with_reducible refine Below.drew ?_) | (with_reducible refine Below.setCell ?_ ?_ _) | (with_reducible exact Nat.le_refl _) | omega | (simp only [World.size_alloc, World.size_setCell, World.size_drew]; omega) | (simp; omega) | (simp; done))))⟩
set_option maxRecDepth 100000 in
set_option maxHeartbeats 4000000 in
theorem Left_ok (b : Br) (A : Option Addr) (c : Nat) (bs : List Bn) (w : World) (hA : BinsAt w A bs) (hl : bs.length ≤ 1000) (hE : barnErr b bs = 0) (k : Nat) (x : Bn) (hx : bs[k]? = some x) :
    Calls Try.prog 18 #[.agg #[.int .i64 b.cool, .int .i64 b.gangs, .int .i64 b.r0, .int .i64 b.r1, .int .i64 b.r2, .int .i64 b.r3, .int .i64 b.r4, .int .i64 b.r5, .slice A bs.length c], .int .i64 (k : Int)] w fun e w' => e = .returned (.tuple #[.int .i64 (daysOf (b.rise x.hi) x.warm x.mark), .int .i64 0]) ∧ Below w.heap.size w w' := by
  have HA := Lib.hid hA
  clear hA
  have hin : within (k : Int) 0 ((bs.length : Int) - 1) = true := by simp only [within, Bool.and_eq_true, decide_eq_true_eq]; have := (List.getElem?_eq_some_iff.1 hx).1; omega
  have hbe := binErr_ok hE hin
  obtain ⟨D, hD⟩ : ∃ z, daysOf (b.rise x.hi) x.warm x.mark = z := ⟨_, rfl⟩
  rw [hD]
  have HD := Lib.hid hD
  clear hD
  have HBE := Lib.hid hbe
  have HX := Lib.hid hx
  have HEE := Lib.hid hE
  clear hbe hx hE hin
  go_enter Try.func18, Try.ntmps18
  go_wp2_with fail
  refine (checkBin_any b A c bs (k : Int) _ (HA.out.up (by (repeat' (first | (with_reducible exact Below.refl _ _) | (with_reducible assumption) | (with_reducible refine Below.alloc ?_ ?_ _) | (with_reducible refine Below.drew ?_) | (with_reducible refine Below.setCell ?_ ?_ _) | (with_reducible exact Nat.le_refl _) | omega | (simp only [World.size_alloc, World.size_setCell, World.size_drew]; omega) | (simp; omega) | (simp; done))))) hl).mono ?_
  rw [HBE.out]
  rintro e w1 ⟨rfl, hb1⟩
  have Hb1 := Lib.hid (Holds.up (by (repeat first | (with_reducible assumption) | (with_reducible apply Holds.set4) | (with_reducible apply Holds.set2) | (with_reducible apply Holds.putL) | ((with_reducible refine Holds.new' _ _ ?_); (simp; done)) | (with_reducible refine Holds.alloc ?_ _) | (with_reducible refine Holds.drew ?_) | ((with_reducible refine Holds.far ?_ (by simp only [ne_eq]; omega) _)) | rfl) : Holds _ (w.heap.size) 25 #[.int .i64 b.cool, .int .i64 b.gangs, .int .i64 b.r0, .int .i64 b.r1, .int .i64 b.r2, .int .i64 b.r3, .int .i64 b.r4, .int .i64 b.r5, .slice A bs.length c]) hb1)
  have HS1 : Hid (Below w.heap.size w w1) := Lib.hid (Below.trans (by (repeat' (first | (with_reducible exact Below.refl _ _) | (with_reducible assumption) | (with_reducible refine Below.alloc ?_ ?_ _) | (with_reducible refine Below.drew ?_) | (with_reducible refine Below.setCell ?_ ?_ _) | (with_reducible exact Nat.le_refl _) | omega | (simp only [World.size_alloc, World.size_setCell, World.size_drew]; omega) | (simp; omega) | (simp; done)))) (hb1.mono (by first | exact Nat.le_refl _ | omega | (simp; done) | (simp; omega))))
  have HB1 := HS1
  have hs1 := HB1.out.size
  have hst1 := HS1.out.size
  have HA1 := Lib.hid (HA.out.up HS1.out)
  clear hb1
  have kb0 : w1.cell? ⟨w.heap.size, 0, none⟩ = some (.int .i64 b.cool) := Hb1.out.cell 0
  have kb1 : w1.cell? ⟨w.heap.size, 1, none⟩ = some (.int .i64 b.gangs) := Hb1.out.cell 1
  have kb2 : w1.cell? ⟨w.heap.size, 2, none⟩ = some (.int .i64 b.r0) := Hb1.out.cell 2
  have kb3 : w1.cell? ⟨w.heap.size, 3, none⟩ = some (.int .i64 b.r1) := Hb1.out.cell 3
  have kb4 : w1.cell? ⟨w.heap.size, 4, none⟩ = some (.int .i64 b.r2) := Hb1.out.cell 4
  have kb5 : w1.cell? ⟨w.heap.size, 5, none⟩ = some (.int .i64 b.r3) := Hb1.out.cell 5
  have kb6 : w1.cell? ⟨w.heap.size, 6, none⟩ = some (.int .i64 b.r4) := Hb1.out.cell 6
  have kb7 : w1.cell? ⟨w.heap.size, 7, none⟩ = some (.int .i64 b.r5) := Hb1.out.cell 7
  have kb8 : w1.cell? ⟨w.heap.size, 8, none⟩ = some (.slice A bs.length c) := Hb1.out.cell 8
  have lt_b : w.heap.size < w1.heap.size := Hb1.out.lt
  go_wp2_with fail
  refine (left_any b A c bs _ (HA1.out.up (by (repeat' (first | (with_reducible exact Below.refl _ _) | (with_reducible assumption) | (with_reducible refine Below.alloc ?_ ?_ _) | (with_reducible refine Below.drew ?_) | (with_reducible refine Below.setCell ?_ ?_ _) | (with_reducible exact Nat.le_refl _) | omega | (simp only [World.size_alloc, World.size_setCell, World.size_drew]; omega) | (simp; omega) | (simp; done))))) hl HEE.out k x HX.out).mono ?_
  rw [HD.out]
  rintro e w2 ⟨rfl, hb2⟩
  have Hb2 := Lib.hid (Holds.up (by have h := Hb1.out; exact (by (repeat first | (with_reducible assumption) | (with_reducible apply Holds.set4) | (with_reducible apply Holds.set2) | (with_reducible apply Holds.putL) | ((with_reducible refine Holds.new' _ _ ?_); (simp; done)) | (with_reducible refine Holds.alloc ?_ _) | (with_reducible refine Holds.drew ?_) | ((with_reducible refine Holds.far ?_ (by simp only [ne_eq]; omega) _)) | rfl)) : Holds _ (w.heap.size) 25 #[.int .i64 b.cool, .int .i64 b.gangs, .int .i64 b.r0, .int .i64 b.r1, .int .i64 b.r2, .int .i64 b.r3, .int .i64 b.r4, .int .i64 b.r5, .slice A bs.length c]) hb2)
  have HS2 : Hid (Below w1.heap.size w1 w2) := Lib.hid (Below.trans (by (repeat' (first | (with_reducible exact Below.refl _ _) | (with_reducible assumption) | (with_reducible refine Below.alloc ?_ ?_ _) | (with_reducible refine Below.drew ?_) | (with_reducible refine Below.setCell ?_ ?_ _) | (with_reducible exact Nat.le_refl _) | omega | (simp only [World.size_alloc, World.size_setCell, World.size_drew]; omega) | (simp; omega) | (simp; done)))) (hb2.mono (by first | exact Nat.le_refl _ | omega | (simp; done) | (simp; omega))))
  have HB2 : Hid (Below w.heap.size w w2) := Lib.hid (HB1.out.trans (HS2.out.mono hs1))
  have hs2 := HB2.out.size
  have hst2 := HS2.out.size
  have HA2 := Lib.hid (HA1.out.up HS2.out)
  clear hb2
  clear kb0 kb1 kb2 kb3 kb4 kb5 kb6 kb7 kb8 lt_b
  go_wp2_with fail
  refine ret_two rfl rfl ?_
  exact ⟨rfl, HB2.out⟩
set_option maxRecDepth 100000 in
set_option maxHeartbeats 4000000 in
theorem Lasts_ok (b : Br) (A : Option Addr) (c : Nat) (bs : List Bn) (w : World) (hA : BinsAt w A bs) (hl : bs.length ≤ 1000) (hE : barnErr b bs = 0) (k : Nat) (x : Bn) (hx : bs[k]? = some x) :
    Calls Try.prog 19 #[.agg #[.int .i64 b.cool, .int .i64 b.gangs, .int .i64 b.r0, .int .i64 b.r1, .int .i64 b.r2, .int .i64 b.r3, .int .i64 b.r4, .int .i64 b.r5, .slice A bs.length c], .int .i64 (k : Int)] w fun e w' => e = .returned (.tuple #[.int .i64 (daysOf (b.rise x.hi) b.cool x.mark), .int .i64 0]) ∧ Below w.heap.size w w' := by
  have HA := Lib.hid hA
  clear hA
  have hin : within (k : Int) 0 ((bs.length : Int) - 1) = true := by simp only [within, Bool.and_eq_true, decide_eq_true_eq]; have := (List.getElem?_eq_some_iff.1 hx).1; omega
  have hbe := binErr_ok hE hin
  obtain ⟨D, hD⟩ : ∃ z, daysOf (b.rise x.hi) b.cool x.mark = z := ⟨_, rfl⟩
  rw [hD]
  have HD := Lib.hid hD
  clear hD
  have HBE := Lib.hid hbe
  have HX := Lib.hid hx
  have HEE := Lib.hid hE
  clear hbe hx hE hin
  go_enter Try.func19, Try.ntmps19
  go_wp2_with fail
  refine (checkBin_any b A c bs (k : Int) _ (HA.out.up (by (repeat' (first | (with_reducible exact Below.refl _ _) | (with_reducible assumption) | (with_reducible refine Below.alloc ?_ ?_ _) | (with_reducible refine Below.drew ?_) | (with_reducible refine Below.setCell ?_ ?_ _) | (with_reducible exact Nat.le_refl _) | omega | (simp only [World.size_alloc, World.size_setCell, World.size_drew]; omega) | (simp; omega) | (simp; done))))) hl).mono ?_
  rw [HBE.out]
  rintro e w1 ⟨rfl, hb1⟩
  have Hb1 := Lib.hid (Holds.up (by (repeat first | (with_reducible assumption) | (with_reducible apply Holds.set4) | (with_reducible apply Holds.set2) | (with_reducible apply Holds.putL) | ((with_reducible refine Holds.new' _ _ ?_); (simp; done)) | (with_reducible refine Holds.alloc ?_ _) | (with_reducible refine Holds.drew ?_) | ((with_reducible refine Holds.far ?_ (by simp only [ne_eq]; omega) _)) | rfl) : Holds _ (w.heap.size) 25 #[.int .i64 b.cool, .int .i64 b.gangs, .int .i64 b.r0, .int .i64 b.r1, .int .i64 b.r2, .int .i64 b.r3, .int .i64 b.r4, .int .i64 b.r5, .slice A bs.length c]) hb1)
  have HS1 : Hid (Below w.heap.size w w1) := Lib.hid (Below.trans (by (repeat' (first | (with_reducible exact Below.refl _ _) | (with_reducible assumption) | (with_reducible refine Below.alloc ?_ ?_ _) | (with_reducible refine Below.drew ?_) | (with_reducible refine Below.setCell ?_ ?_ _) | (with_reducible exact Nat.le_refl _) | omega | (simp only [World.size_alloc, World.size_setCell, World.size_drew]; omega) | (simp; omega) | (simp; done)))) (hb1.mono (by first | exact Nat.le_refl _ | omega | (simp; done) | (simp; omega))))
  have HB1 := HS1
  have hs1 := HB1.out.size
  have hst1 := HS1.out.size
  have HA1 := Lib.hid (HA.out.up HS1.out)
  clear hb1
  have kb0 : w1.cell? ⟨w.heap.size, 0, none⟩ = some (.int .i64 b.cool) := Hb1.out.cell 0
  have kb1 : w1.cell? ⟨w.heap.size, 1, none⟩ = some (.int .i64 b.gangs) := Hb1.out.cell 1
  have kb2 : w1.cell? ⟨w.heap.size, 2, none⟩ = some (.int .i64 b.r0) := Hb1.out.cell 2
  have kb3 : w1.cell? ⟨w.heap.size, 3, none⟩ = some (.int .i64 b.r1) := Hb1.out.cell 3
  have kb4 : w1.cell? ⟨w.heap.size, 4, none⟩ = some (.int .i64 b.r2) := Hb1.out.cell 4
  have kb5 : w1.cell? ⟨w.heap.size, 5, none⟩ = some (.int .i64 b.r3) := Hb1.out.cell 5
  have kb6 : w1.cell? ⟨w.heap.size, 6, none⟩ = some (.int .i64 b.r4) := Hb1.out.cell 6
  have kb7 : w1.cell? ⟨w.heap.size, 7, none⟩ = some (.int .i64 b.r5) := Hb1.out.cell 7
  have kb8 : w1.cell? ⟨w.heap.size, 8, none⟩ = some (.slice A bs.length c) := Hb1.out.cell 8
  have lt_b : w.heap.size < w1.heap.size := Hb1.out.lt
  go_wp2_with fail
  refine (lasts_any b A c bs _ (HA1.out.up (by (repeat' (first | (with_reducible exact Below.refl _ _) | (with_reducible assumption) | (with_reducible refine Below.alloc ?_ ?_ _) | (with_reducible refine Below.drew ?_) | (with_reducible refine Below.setCell ?_ ?_ _) | (with_reducible exact Nat.le_refl _) | omega | (simp only [World.size_alloc, World.size_setCell, World.size_drew]; omega) | (simp; omega) | (simp; done))))) hl HEE.out k x HX.out).mono ?_
  rw [HD.out]
  rintro e w2 ⟨rfl, hb2⟩
  have Hb2 := Lib.hid (Holds.up (by have h := Hb1.out; exact (by (repeat first | (with_reducible assumption) | (with_reducible apply Holds.set4) | (with_reducible apply Holds.set2) | (with_reducible apply Holds.putL) | ((with_reducible refine Holds.new' _ _ ?_); (simp; done)) | (with_reducible refine Holds.alloc ?_ _) | (with_reducible refine Holds.drew ?_) | ((with_reducible refine Holds.far ?_ (by simp only [ne_eq]; omega) _)) | rfl)) : Holds _ (w.heap.size) 25 #[.int .i64 b.cool, .int .i64 b.gangs, .int .i64 b.r0, .int .i64 b.r1, .int .i64 b.r2, .int .i64 b.r3, .int .i64 b.r4, .int .i64 b.r5, .slice A bs.length c]) hb2)
  have HS2 : Hid (Below w1.heap.size w1 w2) := Lib.hid (Below.trans (by (repeat' (first | (with_reducible exact Below.refl _ _) | (with_reducible assumption) | (with_reducible refine Below.alloc ?_ ?_ _) | (with_reducible refine Below.drew ?_) | (with_reducible refine Below.setCell ?_ ?_ _) | (with_reducible exact Nat.le_refl _) | omega | (simp only [World.size_alloc, World.size_setCell, World.size_drew]; omega) | (simp; omega) | (simp; done)))) (hb2.mono (by first | exact Nat.le_refl _ | omega | (simp; done) | (simp; omega))))
  have HB2 : Hid (Below w.heap.size w w2) := Lib.hid (HB1.out.trans (HS2.out.mono hs1))
  have hs2 := HB2.out.size
  have hst2 := HS2.out.size
  have HA2 := Lib.hid (HA1.out.up HS2.out)
  clear hb2
  clear kb0 kb1 kb2 kb3 kb4 kb5 kb6 kb7 kb8 lt_b
  go_wp2_with fail
  refine ret_two rfl rfl ?_
  exact ⟨rfl, HB2.out⟩
theorem days_zero {r g mk : Int} (hr : 1 ≤ r) (h : mk < g + r) (h2 : g ≤ mk ∨ mk < g) : max 0 (mk - g) / r = 0 := by
  rcases h2 with h2 | h2
  · rw [Int.max_eq_right (by omega)]; exact Int.ediv_eq_zero_of_lt (by omega) (by omega)
  · rw [Int.max_eq_left (by omega)]; exact Int.zero_ediv r
theorem days_step {r g mk : Int} (hr : 1 ≤ r) (h : g + r ≤ mk) : max 0 (mk - g) / r = max 0 (mk - (g + r)) / r + 1 := by
  rw [Int.max_eq_right (by omega), Int.max_eq_right (by omega)]
  rw [show mk - g = (mk - (g + r)) + r * 1 from by omega, Int.add_mul_ediv_left _ _ (by omega)]
set_option maxRecDepth 100000 in
set_option maxHeartbeats 4000000 in
theorem refLeft_any (b : Br) (A : Option Addr) (c : Nat) (bs : List Bn) (w : World) (hA : BinsAt w A bs) (hl : bs.length ≤ 1000) (hE : barnErr b bs = 0) (k : Nat) (x : Bn) (hx : bs[k]? = some x) (g : Int) (hg0 : 0 ≤ g) (hg1 : g ≤ 60) :
    Calls Try.prog 15 #[.agg #[.int .i64 b.cool, .int .i64 b.gangs, .int .i64 b.r0, .int .i64 b.r1, .int .i64 b.r2, .int .i64 b.r3, .int .i64 b.r4, .int .i64 b.r5, .slice A bs.length c], .int .i64 (k : Int), .int .i64 g] w fun e w' => e = .returned (.int .i64 (daysOf (b.rise x.hi) g x.mark)) ∧ Below w.heap.size w w' := by
  obtain ⟨l, m, hlo, hhi, hl6, hm6, hm0, hm1, hw0, hw1, hc0, hc1, hr⟩ := good_bin hE hx
  rw [hhi]
  obtain ⟨E0, oo, rfl, hcell⟩ := hA (by have := (List.getElem?_eq_some_iff.1 hx).1; omega)
  have hk : k < bs.length := (List.getElem?_eq_some_iff.1 hx).1
  have hk' : (k : Int) < bs.length := by omega
  have ke1 : w.cell? ⟨E0, oo + k * 4 + 1, none⟩ = some (.int .i64 x.mark) := hcell k x hx 1 _ rfl
  have ke3 : w.cell? ⟨E0, oo + k * 4 + 2 + 1, none⟩ = some (.int .i64 x.hi) := hcell k x hx 3 _ rfl
  rw [hhi] at ke3
  have h6m : (m : Int) < 6 := by omega
  have lE : E0 < w.heap.size := World.block_lt_of_cell? w _ ke1
  obtain ⟨r, hrr⟩ : ∃ z, b.rise m = z := ⟨_, rfl⟩
  rw [hrr] at hr ⊢
  have hX := Holds.new w 33 #[.int .i64 b.cool, .int .i64 b.gangs, .int .i64 b.r0, .int .i64 b.r1, .int .i64 b.r2, .int .i64 b.r3, .int .i64 b.r4, .int .i64 b.r5, .slice (some ⟨E0, oo, none⟩) bs.length c]
  have krm := rise_nat hX hm6
  rw [hrr] at krm
  have KE1 := Lib.hid ke1
  have HX := Lib.hid hX
  have hmk := hm1
  clear hcell hx hlo hhi hE hX hrr
  by_cases h0 : r = 0
  · subst h0
    go_enter Try.func15, Try.ntmps15
    go_wp2_with fail
    go_ret
    exact ⟨rfl, by (repeat' (first | (with_reducible exact Below.refl _ _) | (with_reducible assumption) | (with_reducible refine Below.alloc ?_ ?_ _) | (with_reducible refine Below.drew ?_) | (with_reducible refine Below.setCell ?_ ?_ _) | (with_reducible exact Nat.le_refl _) | omega | (simp only [World.size_alloc, World.size_setCell, World.size_drew]; omega) | (simp; omega) | (simp; done)))⟩
  · have hr6 : 6 ≤ r := by omega
    have hr20 : r ≤ 20 := by omega
    have hne : (r == 0) = false := by simpa using h0
    have HDD : Hid (daysOf r g x.mark = max 0 (x.mark - g) / r) := Lib.hid (by unfold daysOf; rw [if_neg h0])
    go_enter Try.func15, Try.ntmps15
    go_wp2_with fail
    go_loopw [2, 8] (fun v2 v8 wr => ∃ (q n : Int), v2 = .int .i64 q ∧ v8 = .int .i64 n ∧ 0 ≤ q ∧ q ≤ 80 ∧ 0 ≤ n ∧ n ≤ q ∧ Hid (max 0 (x.mark - g) / r = n + max 0 (x.mark - q) / r) ∧ Below w.heap.size w wr ∧ Holds wr w.heap.size 33 #[.int .i64 b.cool, .int .i64 b.gangs, .int .i64 b.r0, .int .i64 b.r1, .int .i64 b.r2, .int .i64 b.r3, .int .i64 b.r4, .int .i64 b.r5, .slice (some ⟨E0, oo, none⟩) bs.length c]) (fun v2 _ _ => (100 - intOf v2).toNat)
    case atStart => exact ⟨g, 0, rfl, rfl, hg0, by omega, by omega, by omega, Lib.hid (by omega), by (repeat' (first | (with_reducible exact Below.refl _ _) | (with_reducible assumption) | (with_reducible refine Below.alloc ?_ ?_ _) | (with_reducible refine Below.drew ?_) | (with_reducible refine Below.setCell ?_ ?_ _) | (with_reducible exact Nat.le_refl _) | omega | (simp only [World.size_alloc, World.size_setCell, World.size_drew]; omega) | (simp; omega) | (simp; done))), by (repeat first | (with_reducible assumption) | (with_reducible apply Holds.set4) | (with_reducible apply Holds.set2) | (with_reducible apply Holds.putL) | ((with_reducible refine Holds.new' _ _ ?_); (simp; done)) | (with_reducible refine Holds.alloc ?_ _) | (with_reducible refine Holds.drew ?_) | ((with_reducible refine Holds.far ?_ (by simp only [ne_eq]; omega) _)) | rfl)⟩
    case round =>
      obtain ⟨q, n, rfl, rfl, hq0, hq1, hn0, hn1, hD, hB, hH⟩ := hrel
      have ke1' := up_cell hB KE1.out
      have kb8 : wr.cell? ⟨w.heap.size, 8, none⟩ = some (.slice (some ⟨E0, oo, none⟩) bs.length c) := hH.cell 8
      have lE' := World.block_lt_of_cell? wr _ ke1'
      have HB := Lib.hid hB
      have HH := Lib.hid hH
      clear ke1 hB hH
      by_cases hlt : q + r ≤ x.mark
      · go_wp2_with fail
        go_roundw
        case rel => exact ⟨q + r, n + 1, by go_num, by go_num, by omega, by omega, by omega, by omega, Lib.hid (by rw [hD.out, days_step (by omega) hlt]; omega), HB.out, HH.out⟩
        case measure => first | (simp [intOf]; done) | (simp [intOf]; omega)
      · have hlt' : x.mark < q + r := by omega
        go_wp2_with fail
        go_ret
        exact ⟨by rw [HDD.out, hD.out, days_zero (by omega) (by omega) (by omega), Int.add_zero]; rfl, HB.out⟩
set_option maxRecDepth 100000 in
set_option maxHeartbeats 4000000 in
theorem refLasts_any (b : Br) (A : Option Addr) (c : Nat) (bs : List Bn) (w : World) (hA : BinsAt w A bs) (hl : bs.length ≤ 1000) (hE : barnErr b bs = 0) (k : Nat) (x : Bn) (hx : bs[k]? = some x) :
    Calls Try.prog 16 #[.agg #[.int .i64 b.cool, .int .i64 b.gangs, .int .i64 b.r0, .int .i64 b.r1, .int .i64 b.r2, .int .i64 b.r3, .int .i64 b.r4, .int .i64 b.r5, .slice A bs.length c], .int .i64 (k : Int)] w fun e w' => e = .returned (.int .i64 (daysOf (b.rise x.hi) b.cool x.mark)) ∧ Below w.heap.size w w' := by
  obtain ⟨_, _, _, _, _, _, _, _, _, _, hc0, hc1, -⟩ := good_bin hE hx
  have HA := Lib.hid hA
  have HX := Lib.hid hx
  have HEE := Lib.hid hE
  obtain ⟨D, hD⟩ : ∃ z, daysOf (b.rise x.hi) b.cool x.mark = z := ⟨_, rfl⟩
  rw [hD]
  have HD := Lib.hid hD
  clear hA hx hE hD
  go_enter Try.func16, Try.ntmps16
  go_wp2_with (go_at_call 15; refine (refLeft_any b A c bs _ (HA.out.up (by (repeat' (first | (with_reducible exact Below.refl _ _) | (with_reducible assumption) | (with_reducible refine Below.alloc ?_ ?_ _) | (with_reducible refine Below.drew ?_) | (with_reducible refine Below.setCell ?_ ?_ _) | (with_reducible exact Nat.le_refl _) | omega | (simp only [World.size_alloc, World.size_setCell, World.size_drew]; omega) | (simp; omega) | (simp; done))))) hl HEE.out k x HX.out b.cool hc0 hc1).mono ?_; rw [HD.out]; rintro e w2 ⟨rfl, hb2⟩)
  go_ret
  exact ⟨rfl, Below.trans (by (repeat' (first | (with_reducible exact Below.refl _ _) | (with_reducible assumption) | (with_reducible refine Below.alloc ?_ ?_ _) | (with_reducible refine Below.drew ?_) | (with_reducible refine Below.setCell ?_ ?_ _) | (with_reducible exact Nat.le_refl _) | omega | (simp only [World.size_alloc, World.size_setCell, World.size_drew]; omega) | (simp; omega) | (simp; done)))) (hb2.mono (by simp))⟩
end Go.Proofs.Ytfghfmlcfbkmjaa
