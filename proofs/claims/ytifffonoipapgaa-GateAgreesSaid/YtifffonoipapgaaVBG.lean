
import Derived.Test.YtifffonoipapgaaVAA
import Derived.Test.YtifffonoipapgaaVAC
import Derived.Test.YtifffonoipapgaaVAO
import Derived.Test.YtifffonoipapgaaVAP
import Derived.Test.YtifffonoipapgaaVBC
import Derived.Test.YtifffonoipapgaaVBF
set_option linter.unusedSimpArgs false
set_option linter.unusedVariables false
namespace Go.Proofs.Ytifffonoipapgaa
open Go.RowKit
set_option maxRecDepth 100000 in
set_option maxHeartbeats 2000000 in
theorem Net_ok (err miss full empty : Int) (G A : Option Addr) (d c : Nat) (gs : List Gr) (hs : List Hf) (w : World) (hG : GradesAt w G gs) (hgl : gs.length ≤ 1000) (hA : HandsAt w A hs) (hl : hs.length ≤ 1000) (he : bothErr err miss gs full empty hs = 0) :
  Calls Try.prog 37 #[.agg #[.int .i64 err, .int .i64 miss, .slice G gs.length d], .agg #[.int .i64 full, .int .i64 empty, .slice A hs.length c]] w fun e w' => e = .returned (.tuple #[.agg #[.int .i64 (max 0 (full - empty - 2 * err)), .int .i64 (max 0 (full - empty + 2 * err))], .int .i64 0]) ∧ Below w.heap.size w w' := by
 have HA := Lib.hid hA
 have HG := Lib.hid hG
 clear hA hG
 have hq : (bothErr err miss gs full empty hs != 0) = false := by simp [he]
 obtain ⟨hg0, hc0⟩ := bothErr_zero he
 obtain ⟨_, r0, r1, m0, m1, _, _⟩ := gateErr_zero hg0
 obtain ⟨_, f0, f1, e0, e1, ht, hn⟩ := cartErr_zero hc0
 have HE := Lib.hid he
 have HT := Lib.hid ht
 have HN := Lib.hid hn
 clear he hg0 hc0 ht hn
 go_enter Try.func37, Try.ntmps37
 go_wp2_with (first | (go_at_call 97; refine (arrive_at err miss full empty G A d c gs hs _ (HG.out.up zg) hgl (HA.out.up zg) hl HE.out).mono ?_; rintro e w2 ⟨rfl, hb2⟩; have Hrw2 : Holds w2 (w.heap.size + 1 + 1) 60 #[.int .i64 0, .int .i64 0] := Holds.up zp3 hb2; have hBw2 : Below w.heap.size w w2 := Below.trans zg (hb2.mono (by first | omega | (simp; done) | (simp; omega))); have hsw2 := hb2.size; simp only [World.size_alloc] at hsw2; have hlw20 : w.heap.size + 1 + 1 < w2.heap.size := (by omega); have hlw21 : w.heap.size + 1 < w2.heap.size := (by omega); have hlw22 : w.heap.size < w2.heap.size := (by omega); clear hb2) | (go_at_call 98; refine (net_any full empty err miss _ _ _ _ f0 f1 e0 e1 r0 r1).mono ?_; rintro e w3 ⟨rfl, hb3⟩; have Hrw3 : Holds w3 (w.heap.size + 1 + 1) 60 #[.int .i64 0, .int .i64 0] := Holds.up zp3 hb3; have hBw3 : Below w.heap.size w w3 := Below.trans zg (hb3.mono (by first | omega | (simp; done) | (simp; omega))); have hsw3 := hb3.size; simp only [World.size_alloc] at hsw3; have hlw30 : w.heap.size + 1 + 1 < w3.heap.size := (by omega); have hlw31 : w.heap.size + 1 < w3.heap.size := (by omega); have hlw32 : w.heap.size < w3.heap.size := (by omega); clear hb3; have cr0 : w3.cell? ⟨w.heap.size + 1 + 1, 0, none⟩ = some (.int .i64 0) := Hrw3.cell 0; have zr0 : w3.frozen? ⟨w.heap.size + 1 + 1, 0, none⟩ = false := Hrw3.frozen 0; have cr1 : w3.cell? ⟨w.heap.size + 1 + 1, 1, none⟩ = some (.int .i64 0) := Hrw3.cell 1; have zr1 : w3.frozen? ⟨w.heap.size + 1 + 1, 1, none⟩ = false := Hrw3.frozen 1))
 refine ret_cell2 (t := 60) rfl rfl rfl ?_ Try.underlying60 rfl (by kernel_rfl) rfl ⟨rfl, zg⟩
 exact zp3
set_option maxRecDepth 100000 in
set_option maxHeartbeats 2000000 in
theorem Bounds_ok (err miss full empty : Int) (G A : Option Addr) (d c : Nat) (gs : List Gr) (hs : List Hf) (w : World) (hG : GradesAt w G gs) (hgl : gs.length ≤ 1000) (hA : HandsAt w A hs) (hl : hs.length ≤ 1000) (he : bothErr err miss gs full empty hs = 0) (hb : (boundsOf miss (fun _ => true) hs).empty = false) :
  Calls Try.prog 43 #[.agg #[.int .i64 err, .int .i64 miss, .slice G gs.length d], .agg #[.int .i64 full, .int .i64 empty, .slice A hs.length c]] w fun e w' => e = .returned (.tuple #[.agg #[.int .i64 (boundsOf miss (fun _ => true) hs).l0, .int .i64 (boundsOf miss (fun _ => true) hs).h0, .int .i64 (boundsOf miss (fun _ => true) hs).l1, .int .i64 (boundsOf miss (fun _ => true) hs).h1, .int .i64 (boundsOf miss (fun _ => true) hs).l2, .int .i64 (boundsOf miss (fun _ => true) hs).h2, .int .i64 (boundsOf miss (fun _ => true) hs).l3, .int .i64 (boundsOf miss (fun _ => true) hs).h3], .int .i64 0]) ∧ Below w.heap.size w w' := by
 have HA := Lib.hid hA
 have HG := Lib.hid hG
 clear hA hG
 have HE := Lib.hid he
 have HB := Lib.hid hb
 clear he hb
 go_enter Try.func43, Try.ntmps43
 go_wp2_with (go_at_call 107; refine (arriveFitting_ok err miss full empty G A d c gs hs _ (HG.out.up zg) hgl (HA.out.up zg) hl HE.out HB.out).mono ?_; rintro e w2 ⟨rfl, hb2⟩; have Hrw2 : Holds w2 (w.heap.size + 1 + 1) 76 #[.int .i64 0, .int .i64 0, .int .i64 0, .int .i64 0, .int .i64 0, .int .i64 0, .int .i64 0, .int .i64 0] := Holds.up zp3 hb2; have hBw2 : Below w.heap.size w w2 := Below.trans zg (hb2.mono (by first | omega | (simp; done) | (simp; omega))); have hsw2 := hb2.size; simp only [World.size_alloc] at hsw2; have hlw20 : w.heap.size + 1 + 1 < w2.heap.size := (by omega); have hlw21 : w.heap.size + 1 < w2.heap.size := (by omega); have hlw22 : w.heap.size < w2.heap.size := (by omega); clear hb2; have cr0 : w2.cell? ⟨w.heap.size + 1 + 1, 0, none⟩ = some (.int .i64 0) := Hrw2.cell 0; have zr0 : w2.frozen? ⟨w.heap.size + 1 + 1, 0, none⟩ = false := Hrw2.frozen 0; have cr1 : w2.cell? ⟨w.heap.size + 1 + 1, 1, none⟩ = some (.int .i64 0) := Hrw2.cell 1; have zr1 : w2.frozen? ⟨w.heap.size + 1 + 1, 1, none⟩ = false := Hrw2.frozen 1; have cr2 : w2.cell? ⟨w.heap.size + 1 + 1, 2, none⟩ = some (.int .i64 0) := Hrw2.cell 2; have zr2 : w2.frozen? ⟨w.heap.size + 1 + 1, 2, none⟩ = false := Hrw2.frozen 2; have cr3 : w2.cell? ⟨w.heap.size + 1 + 1, 3, none⟩ = some (.int .i64 0) := Hrw2.cell 3; have zr3 : w2.frozen? ⟨w.heap.size + 1 + 1, 3, none⟩ = false := Hrw2.frozen 3; have cr4 : w2.cell? ⟨w.heap.size + 1 + 1, 4, none⟩ = some (.int .i64 0) := Hrw2.cell 4; have zr4 : w2.frozen? ⟨w.heap.size + 1 + 1, 4, none⟩ = false := Hrw2.frozen 4; have cr5 : w2.cell? ⟨w.heap.size + 1 + 1, 5, none⟩ = some (.int .i64 0) := Hrw2.cell 5; have zr5 : w2.frozen? ⟨w.heap.size + 1 + 1, 5, none⟩ = false := Hrw2.frozen 5; have cr6 : w2.cell? ⟨w.heap.size + 1 + 1, 6, none⟩ = some (.int .i64 0) := Hrw2.cell 6; have zr6 : w2.frozen? ⟨w.heap.size + 1 + 1, 6, none⟩ = false := Hrw2.frozen 6; have cr7 : w2.cell? ⟨w.heap.size + 1 + 1, 7, none⟩ = some (.int .i64 0) := Hrw2.cell 7; have zr7 : w2.frozen? ⟨w.heap.size + 1 + 1, 7, none⟩ = false := Hrw2.frozen 7)
 refine ret_cell2 (t := 76) rfl rfl rfl ?_ Try.underlying76 rfl (by kernel_rfl) rfl ⟨rfl, zg⟩
 exact zp3
theorem ev_b2 : boundsOf 2 (fun _ => true) ([0, 1].map allAt) = ⟨31, 32, 4, 5, 0, 2, 2, 4⟩ := by kernel_rfl
theorem ev_e2 : bothErr 5 2 threeGr 1200 300 ([0, 1].map allAt) = 0 := by kernel_rfl
theorem ev_e3 : bothErr 5 2 threeGr 1200 300 ([0, 1, 2].map allAt) = 0 := by kernel_rfl
theorem ev_e1 : bothErr 5 2 threeGr 1200 300 ([1].map allAt) = 0 := by kernel_rfl
theorem ev_x2 : (boundsOf 2 (fun _ => true) ([0, 1].map allAt)).empty = false := by kernel_rfl
theorem ev_x1 : (boundsOf 2 (fun _ => true) ([1].map allAt)).empty = false := by kernel_rfl
theorem ev_c2 : canOf (boundsOf 2 (fun _ => true) ([0, 1].map allAt)) threeGr = [1] := by kernel_rfl
theorem ev_c1 : canOf (boundsOf 2 (fun _ => true) ([1].map allAt)) threeGr = [1, 2, -1] := by kernel_rfl
theorem ev_cl : clashOf 2 ([0, 1, 2].map allAt) = [0, 2] := by kernel_rfl
theorem ev_t : toppedOf 2 ([0, 1, 2].map allAt) = true := by kernel_rfl
theorem net3 (G A : Option Addr) (d c : Nat) (w : World) (hG : GradesAt w G threeGr) (hA : HandsAt w A ([0, 1].map allAt)) :
  Calls Try.prog 37 #[.agg #[.int .i64 5, .int .i64 2, .slice G 3 d], .agg #[.int .i64 1200, .int .i64 300, .slice A 2 c]] w fun e w' => e = .returned (.tuple #[.agg #[.int .i64 890, .int .i64 910], .int .i64 0]) ∧ Below w.heap.size w w' :=
 Net_ok 5 2 1200 300 G A d c threeGr ([0, 1].map allAt) w hG (by decide) hA (by decide) ev_e2
theorem bounds3 (G A : Option Addr) (d c : Nat) (w : World) (hG : GradesAt w G threeGr) (hA : HandsAt w A ([0, 1].map allAt)) :
  Calls Try.prog 43 #[.agg #[.int .i64 5, .int .i64 2, .slice G 3 d], .agg #[.int .i64 1200, .int .i64 300, .slice A 2 c]] w fun e w' => e = .returned (.tuple #[.agg #[.int .i64 31, .int .i64 32, .int .i64 4, .int .i64 5, .int .i64 0, .int .i64 2, .int .i64 2, .int .i64 4], .int .i64 0]) ∧ Below w.heap.size w w' := by
 have h := Bounds_ok 5 2 1200 300 G A d c threeGr ([0, 1].map allAt) w hG (by decide) hA (by decide) ev_e2 ev_x2
 rw [ev_b2] at h
 exact h
theorem sure3 (G A : Option Addr) (d c : Nat) (w : World) (hG : GradesAt w G threeGr) (hd : 3 ≤ d) (hA : HandsAt w A ([0, 1].map allAt)) :
  Calls Try.prog 59 #[.agg #[.int .i64 5, .int .i64 2, .slice G 3 d], .agg #[.int .i64 1200, .int .i64 300, .slice A 2 c]] w fun e w' => e = .returned (.tuple #[.int .i64 1, .int .i64 0]) ∧ Below w.heap.size w w' := by
 have h := Sure_ok 5 2 1200 300 G A d c threeGr ([0, 1].map allAt) w hG (by decide) hd hA (by decide) ev_e2 ev_x2
 rw [ev_c2] at h
 exact h
theorem pay3 (G A : Option Addr) (d c : Nat) (w : World) (hG : GradesAt w G threeGr) (hd : 3 ≤ d) (hA : HandsAt w A ([0, 1].map allAt)) :
  Calls Try.prog 61 #[.agg #[.int .i64 5, .int .i64 2, .slice G 3 d], .agg #[.int .i64 1200, .int .i64 300, .slice A 2 c]] w fun e w' => e = .returned (.tuple #[.agg #[.int .i64 6230, .int .i64 6370], .int .i64 0]) ∧ Below w.heap.size w w' := by
 have h := Pay_ok 5 2 1200 300 G A d c threeGr ([0, 1].map allAt) w hG (by decide) hd hA (by decide) ev_e2 ev_x2
 rw [ev_c2] at h
 exact h
theorem clash3 (G A : Option Addr) (d c : Nat) (w : World) (hG : GradesAt w G threeGr) (hA : HandsAt w A ([0, 1, 2].map allAt)) :
  Calls Try.prog 52 #[.agg #[.int .i64 5, .int .i64 2, .slice G 3 d], .agg #[.int .i64 1200, .int .i64 300, .slice A 3 c]] w fun e w' => ∃ A' c', e = .returned (.tuple #[.slice A' 2 c', .int .i64 0]) ∧ IntsAt w' A' [0, 2] ∧ Below w.heap.size w w' := by
 have h := Clash_ok 5 2 1200 300 G A d c threeGr ([0, 1, 2].map allAt) w hG (by decide) hA (by decide) ev_e3
 refine h.mono ?_
 rintro e w' ⟨v, rfl, ho, hb⟩
 rw [ev_cl] at ho ⊢
 obtain ⟨A', c', rfl, ha⟩ := ints_of_row ho
 exact ⟨A', c', rfl, ha, hb⟩
theorem topped3 (G A : Option Addr) (d c : Nat) (w : World) (hG : GradesAt w G threeGr) (hA : HandsAt w A ([0, 1, 2].map allAt)) :
  Calls Try.prog 53 #[.agg #[.int .i64 5, .int .i64 2, .slice G 3 d], .agg #[.int .i64 1200, .int .i64 300, .slice A 3 c]] w fun e w' => e = .returned (.tuple #[.bool true, .int .i64 0]) ∧ Below w.heap.size w w' := by
 have h := Topped_ok 5 2 1200 300 G A d c threeGr ([0, 1, 2].map allAt) w hG (by decide) hA (by decide) ev_e3
 rw [ev_t] at h
 exact h
theorem can3 (G A : Option Addr) (d c : Nat) (w : World) (hG : GradesAt w G threeGr) (hd : 3 ≤ d) (hA : HandsAt w A ([1].map allAt)) :
  Calls Try.prog 58 #[.agg #[.int .i64 5, .int .i64 2, .slice G 3 d], .agg #[.int .i64 1200, .int .i64 300, .slice A 1 c]] w fun e w' => ∃ A' c', e = .returned (.tuple #[.slice A' 3 c', .int .i64 0]) ∧ IntsAt w' A' [1, 2, -1] ∧ Below w.heap.size w w' := by
 have h := Can_ok 5 2 1200 300 G A d c threeGr ([1].map allAt) w hG (by decide) hd hA (by decide) ev_e1 ev_x1
 refine h.mono ?_
 rintro e w' ⟨v, rfl, ho, hb⟩
 rw [ev_c1] at ho
 obtain ⟨A', c', rfl, ha⟩ := ints_of_row ho
 exact ⟨A', c', rfl, ha, hb⟩
theorem equal2 (A A' : Option Addr) (c c' : Nat) (w : World) (hA : IntsAt w A [0, 2]) (hA' : IntsAt w A' [0, 2]) :
  Calls Try.prog 78 #[.slice A 2 c, .slice A' 2 c'] w fun e w' => e = .returned (.bool true) ∧ Below w.heap.size w w' :=
 EqualInt_any A A' c c' [0, 2] [0, 2] w hA hA' (by decide)
theorem equal3 (A A' : Option Addr) (c c' : Nat) (w : World) (hA : IntsAt w A [1, 2, -1]) (hA' : IntsAt w A' [1, 2, -1]) :
  Calls Try.prog 78 #[.slice A 3 c, .slice A' 3 c'] w fun e w' => e = .returned (.bool true) ∧ Below w.heap.size w w' :=
 EqualInt_any A A' c c' [1, 2, -1] [1, 2, -1] w hA hA' (by decide)
theorem ints_block {W : World} {B : Nat} {t : TypeId} {cs : Array Value} {xs : List Int} (h : Holds W B t cs) (e : cs = (xs.map (Value.int .i64)).toArray) : IntsAt W (some ⟨B, 0, none⟩) xs := fun _ => by
 subst e
 refine ⟨B, 0, rfl, fun k x hx => ?_⟩
 rw [Nat.zero_add, h.cell, List.getElem?_toArray, List.getElem?_map, hx]
 rfl
theorem three2 (A : Option Addr) (c : Nat) (w : World) (hA : IntsAt w A [0, 1]) :
  Calls Try.prog 79 #[.slice A 2 c] w fun e w' => ∃ G A' c', e = .returned (.tuple #[.agg #[.int .i64 5, .int .i64 2, .slice G 3 3], .agg #[.int .i64 1200, .int .i64 300, .slice A' 2 c']]) ∧ GradesAt w' G threeGr ∧ HandsAt w' A' ([0, 1].map allAt) ∧ Below w.heap.size w w' := by
 refine (Three_any [0, 1] (by decide) (by decide) A c w hA).mono ?_
 rintro e w' ⟨G, A', c', rfl, hg, ha, _, hb⟩
 exact ⟨G, A', c', rfl, hg, ha, hb⟩
theorem three3 (A : Option Addr) (c : Nat) (w : World) (hA : IntsAt w A [0, 1, 2]) :
  Calls Try.prog 79 #[.slice A 3 c] w fun e w' => ∃ G A' c', e = .returned (.tuple #[.agg #[.int .i64 5, .int .i64 2, .slice G 3 3], .agg #[.int .i64 1200, .int .i64 300, .slice A' 3 c']]) ∧ GradesAt w' G threeGr ∧ HandsAt w' A' ([0, 1, 2].map allAt) ∧ Below w.heap.size w w' := by
 refine (Three_any [0, 1, 2] (by decide) (by decide) A c w hA).mono ?_
 rintro e w' ⟨G, A', c', rfl, hg, ha, _, hb⟩
 exact ⟨G, A', c', rfl, hg, ha, hb⟩
theorem three1 (A : Option Addr) (c : Nat) (w : World) (hA : IntsAt w A [1]) :
  Calls Try.prog 79 #[.slice A 1 c] w fun e w' => ∃ G A' c', e = .returned (.tuple #[.agg #[.int .i64 5, .int .i64 2, .slice G 3 3], .agg #[.int .i64 1200, .int .i64 300, .slice A' 1 c']]) ∧ GradesAt w' G threeGr ∧ HandsAt w' A' ([1].map allAt) ∧ Below w.heap.size w w' := by
 refine (Three_any [1] (by decide) (by decide) A c w hA).mono ?_
 rintro e w' ⟨G, A', c', rfl, hg, ha, _, hb⟩
 exact ⟨G, A', c', rfl, hg, ha, hb⟩
end Go.Proofs.Ytifffonoipapgaa
