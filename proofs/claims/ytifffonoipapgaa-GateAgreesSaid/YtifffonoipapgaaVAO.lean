import Derived.RegionTactic
import Derived.ChangeAlike
import Derived.Test.YtifffonoipapgaaVAA
import Derived.Test.YtifffonoipapgaaVAC
import Derived.Test.YtifffonoipapgaaVAE
import Derived.Test.YtifffonoipapgaaVAN
set_option linter.unusedSimpArgs false
set_option linter.unusedVariables false
namespace Go.Proofs.Ytifffonoipapgaa
open Go.RowKit
theorem ret_cell3 {P : Program} {fn : Func} {p q u : Tmp} {ty uy : TypeId} (h : fn.results = #[.cell p ty, .cell q uy, .tmp u]) {a : Act} {w : World} {g k : Nat} {t r : TypeId} {cs ds : Array Value} {d e : TypeDesc} {R : Ending → World → Prop} {v : Value}
  (hp : a.tmps.getD p undef = .pointer (some ⟨g, 0, none⟩)) (hq : a.tmps.getD q undef = .pointer (some ⟨k, 0, none⟩)) (hv : a.tmps.getD u undef = v) (hg : Holds w g t cs) (hk : Holds w k r ds)
  (hu : P.underlying ty = some d) (hd : (match d with | .struct _ | .array _ _ => true | _ => false) = true) (hi : (P.info? ty).map (·.size) = some cs.size)
  (hu' : P.underlying uy = some e) (hd' : (match e with | .struct _ | .array _ _ => true | _ => false) = true) (hi' : (P.info? uy).map (·.size) = some ds.size)
  (hdf : a.defers = []) (hR : R (.returned (.tuple #[.agg cs, .agg ds, v])) w) : bodyPost P fn R .ret a w := by
 refine bodyPost_ret ?_ hdf hR
 have e1 := run_loadVar_row (P := P) w g t ty cs (0, 0) d hg hu hd hi
 have e2 := run_loadVar_row (P := P) w k r uy ds (0, 0) e hk hu' hd' hi'
 simp only [Array.getD_eq_getD_getElem?] at hp hq hv
 simp only [results, h]
 simp [Sem.run_bind, asAddr, hp, hq, hv, e1, e2]
theorem arrive_err (err miss full empty : Int) (G A : Option Addr) (d c : Nat) (gs : List Gr) (hs : List Hf) (w : World) (hG : GradesAt w G gs) (hgl : gs.length ≤ 1000) (hA : HandsAt w A hs) (hl : hs.length ≤ 1000) (he : bothErr err miss gs full empty hs ≠ 0) :
  Calls Try.prog 97 #[.agg #[.int .i64 err, .int .i64 miss, .slice G gs.length d], .agg #[.int .i64 full, .int .i64 empty, .slice A hs.length c]] w fun e w' => e = .returned (.tuple #[.agg #[.int .i64 0, .int .i64 0, .slice none 0 0, .int .i64 0, .int .i64 0, .slice none 0 0, .nilFunc], .int .i64 (bothErr err miss gs full empty hs)]) ∧ Below w.heap.size w w' := by
 unfold bothErr at he ⊢
 by_cases h : gateErr err miss gs = 0
 ·rw [if_neg (by simpa using h)] at he ⊢
  exact arrive_cart err miss full empty G A d c gs hs w hG hgl hA hl h he
 ·rw [if_pos h] at he ⊢
  exact arrive_bad err miss full empty G A d c gs hs w hG hgl hA hl h
theorem arrive_at (err miss full empty : Int) (G A : Option Addr) (d c : Nat) (gs : List Gr) (hs : List Hf) (w : World) (hG : GradesAt w G gs) (hgl : gs.length ≤ 1000) (hA : HandsAt w A hs) (hl : hs.length ≤ 1000) (he : bothErr err miss gs full empty hs = 0) :
  Calls Try.prog 97 #[.agg #[.int .i64 err, .int .i64 miss, .slice G gs.length d], .agg #[.int .i64 full, .int .i64 empty, .slice A hs.length c]] w fun e w' => e = .returned (.tuple #[.agg #[.int .i64 full, .int .i64 empty, .slice A hs.length c, .int .i64 err, .int .i64 miss, .slice G gs.length d, .func (.func 99) #[.agg #[.int .i64 full, .int .i64 empty, .slice A hs.length c]] #[]], .int .i64 0]) ∧ Below w.heap.size w w' := by
 unfold bothErr at he
 by_cases h : gateErr err miss gs = 0
 ·rw [if_neg (by simpa using h)] at he
  exact arrive_ok err miss full empty G A d c gs hs w hG hgl hA hl h he
 ·rw [if_pos h] at he
  exact absurd he h
theorem bothErr_zero {err miss full empty : Int} {gs : List Gr} {hs : List Hf} (h : bothErr err miss gs full empty hs = 0) : gateErr err miss gs = 0 ∧ cartErr full empty hs = 0 := by
 unfold bothErr at h
 by_cases h1 : gateErr err miss gs = 0
 ·rw [if_neg (by simpa using h1)] at h; exact ⟨h1, h⟩
 ·rw [if_pos h1] at h; exact absurd h h1
theorem bounds_hand (full empty err miss : Int) (A : Option Addr) (c : Nat) (hs : List Hf) (gs : Value) (w : World) (hA : HandsAt w A hs) (hl : hs.length ≤ 1000)
  (m0 : 0 ≤ miss) (m1 : miss ≤ 20) (ht : ∀ x ∈ hs, x.taken = true) (he : ∀ x ∈ hs, x.enough = true) :
  Calls Try.prog 104 #[.agg #[.int .i64 full, .int .i64 empty, .slice A hs.length c, .int .i64 err, .int .i64 miss, gs, .func (.func 99) #[.agg #[.int .i64 full, .int .i64 empty, .slice A hs.length c]] #[]]] w fun e w' =>
   e = .returned (.agg #[.int .i64 (boundsOf miss (fun _ => true) hs).l0, .int .i64 (boundsOf miss (fun _ => true) hs).h0, .int .i64 (boundsOf miss (fun _ => true) hs).l1, .int .i64 (boundsOf miss (fun _ => true) hs).h1, .int .i64 (boundsOf miss (fun _ => true) hs).l2, .int .i64 (boundsOf miss (fun _ => true) hs).h2, .int .i64 (boundsOf miss (fun _ => true) hs).l3, .int .i64 (boundsOf miss (fun _ => true) hs).h3]) ∧ Below w.heap.size w w' :=
 bounds_any full empty err miss A c hs gs _ _ _ _ w hA hl m0 m1 ht he cf_hasHandful (counts_hand full empty A hs.length c w hl)
theorem zp1 {p : Prop} (h : p := by (repeat first | (with_reducible first | assumption | apply Holds.set8 | apply Holds.set7 | apply Holds.set4 | apply Holds.putL | ((refine Holds.new' _ _ ?_); (simp; done)) | refine Holds.alloc ?_ _ | refine Holds.drew ?_ | refine Holds.far ?_ (by simp only [ne_eq]; omega) _) | rfl)) : p := h
set_option maxRecDepth 100000 in
set_option maxHeartbeats 2000000 in
theorem arriveFitting_ok (err miss full empty : Int) (G A : Option Addr) (d c : Nat) (gs : List Gr) (hs : List Hf) (w : World) (hG : GradesAt w G gs) (hgl : gs.length ≤ 1000) (hA : HandsAt w A hs) (hl : hs.length ≤ 1000) (he : bothErr err miss gs full empty hs = 0) (hb : (boundsOf miss (fun _ => true) hs).empty = false) :
  Calls Try.prog 107 #[.agg #[.int .i64 err, .int .i64 miss, .slice G gs.length d], .agg #[.int .i64 full, .int .i64 empty, .slice A hs.length c]] w fun e w' => e = .returned (.tuple #[.agg #[.int .i64 full, .int .i64 empty, .slice A hs.length c, .int .i64 err, .int .i64 miss, .slice G gs.length d, .func (.func 99) #[.agg #[.int .i64 full, .int .i64 empty, .slice A hs.length c]] #[]], .agg #[.int .i64 (boundsOf miss (fun _ => true) hs).l0, .int .i64 (boundsOf miss (fun _ => true) hs).h0, .int .i64 (boundsOf miss (fun _ => true) hs).l1, .int .i64 (boundsOf miss (fun _ => true) hs).h1, .int .i64 (boundsOf miss (fun _ => true) hs).l2, .int .i64 (boundsOf miss (fun _ => true) hs).h2, .int .i64 (boundsOf miss (fun _ => true) hs).l3, .int .i64 (boundsOf miss (fun _ => true) hs).h3], .int .i64 0]) ∧ Below w.heap.size w w' := by
 have HA := Lib.hid hA
 have HG := Lib.hid hG
 clear hA hG
 have hq : (bothErr err miss gs full empty hs != 0) = false := by simp [he]
 obtain ⟨hg0, hc0⟩ := bothErr_zero he
 obtain ⟨_, _, _, m0, m1, _, _⟩ := gateErr_zero hg0
 obtain ⟨_, _, _, _, _, ht, hn⟩ := cartErr_zero hc0
 have HE := Lib.hid he
 have HT := Lib.hid ht
 have HN := Lib.hid hn
 have HB := Lib.hid hb
 clear he hg0 hc0 ht hn hb
 go_enter Try.func107, Try.ntmps107
 go_wp2_with (first | (go_at_call 97; refine (arrive_at err miss full empty G A d c gs hs _ (HG.out.up zg) hgl (HA.out.up zg) hl HE.out).mono ?_; rintro e w2 ⟨rfl, hb2⟩; have Hr2 : Holds w2 (w.heap.size + 1 + 1) 147 #[.int .i64 0, .int .i64 0, .slice none 0 0, .int .i64 0, .int .i64 0, .slice none 0 0, .nilFunc] := Holds.up zp0 hb2; have Hq2 : Holds w2 (w.heap.size + 1 + 1 + 1) 153 #[.int .i64 0, .int .i64 0, .int .i64 0, .int .i64 0, .int .i64 0, .int .i64 0, .int .i64 0, .int .i64 0] := Holds.up zp0 hb2; have hB2 : Below w.heap.size w w2 := Below.trans zg (hb2.mono (by first | omega | (simp; done) | (simp; omega))); have hs2 := hb2.size; simp only [World.size_alloc] at hs2; have hl2 : w.heap.size + 1 + 1 + 1 < w2.heap.size := (by omega); have hl3 : w.heap.size + 1 + 1 < w2.heap.size := (by omega); have HA2 := HA.out.up hB2; clear hb2) | (go_at_call 104; refine (bounds_hand full empty err miss A c hs _ _ (HA2.up ((Below.refl _ _).alloc (Nat.le_refl _) _)) hl m0 m1 HT.out HN.out).mono ?_; rintro e w3 ⟨rfl, hb3⟩; have Hr3 : Holds w3 (w.heap.size + 1 + 1) 147 #[.int .i64 0, .int .i64 0, .slice none 0 0, .int .i64 0, .int .i64 0, .slice none 0 0, .nilFunc] := Holds.up zp0 hb3; have Hq3 : Holds w3 (w.heap.size + 1 + 1 + 1) 153 #[.int .i64 0, .int .i64 0, .int .i64 0, .int .i64 0, .int .i64 0, .int .i64 0, .int .i64 0, .int .i64 0] := Holds.up zp0 hb3; have Ha3 : Holds w3 (w2.heap.size) 147 #[.int .i64 full, .int .i64 empty, .slice A hs.length c, .int .i64 err, .int .i64 miss, .slice G gs.length d, .func (.func 99) #[.agg #[.int .i64 full, .int .i64 empty, .slice A hs.length c]] #[]] := Holds.up zp0 hb3; have hB3 : Below w.heap.size w w3 := Below.trans zg (hb3.mono (by first | omega | (simp; done) | (simp; omega))); have hs3 := hb3.size; simp only [World.size_alloc] at hs3; have hl4 : w2.heap.size < w3.heap.size := (by omega); clear hb3 Hr2 Hq2) | (go_at_call 109; refine (empty_any _ _).mono ?_; rw [HB.out]; rintro e w4 ⟨rfl, hb4⟩; have Hr4 : Holds w4 (w.heap.size + 1 + 1) 147 #[.int .i64 0, .int .i64 0, .slice none 0 0, .int .i64 0, .int .i64 0, .slice none 0 0, .nilFunc] := Holds.up zp0 hb4; have Hq4 : Holds w4 (w.heap.size + 1 + 1 + 1) 153 #[.int .i64 0, .int .i64 0, .int .i64 0, .int .i64 0, .int .i64 0, .int .i64 0, .int .i64 0, .int .i64 0] := Holds.up zp0 hb4; have Ha4 : Holds w4 (w2.heap.size) 147 #[.int .i64 full, .int .i64 empty, .slice A hs.length c, .int .i64 err, .int .i64 miss, .slice G gs.length d, .func (.func 99) #[.agg #[.int .i64 full, .int .i64 empty, .slice A hs.length c]] #[]] := Holds.up zp0 hb4; have Hb4 : Holds w4 (w3.heap.size) 153 #[.int .i64 (boundsOf miss (fun _ => true) hs).l0, .int .i64 (boundsOf miss (fun _ => true) hs).h0, .int .i64 (boundsOf miss (fun _ => true) hs).l1, .int .i64 (boundsOf miss (fun _ => true) hs).h1, .int .i64 (boundsOf miss (fun _ => true) hs).l2, .int .i64 (boundsOf miss (fun _ => true) hs).h2, .int .i64 (boundsOf miss (fun _ => true) hs).l3, .int .i64 (boundsOf miss (fun _ => true) hs).h3] := Holds.up zp0 hb4; have hB4 : Below w.heap.size w w4 := Below.trans zg (hb4.mono (by first | omega | (simp; done) | (simp; omega))); have hs4 := hb4.size; simp only [World.size_alloc] at hs4; have hl5 : w3.heap.size < w4.heap.size := (by omega); have hl6 : w2.heap.size < w4.heap.size := (by omega); have hl7 : w.heap.size + 1 + 1 + 1 < w4.heap.size := (by omega); have hl8 : w.heap.size + 1 + 1 < w4.heap.size := (by omega); clear hb4 Hr3 Hq3 Ha3; have cr0 : w4.cell? ⟨w.heap.size + 1 + 1, 0, none⟩ = some (.int .i64 0) := Hr4.cell 0; have zr0 : w4.frozen? ⟨w.heap.size + 1 + 1, 0, none⟩ = false := Hr4.frozen 0; have cr1 : w4.cell? ⟨w.heap.size + 1 + 1, 1, none⟩ = some (.int .i64 0) := Hr4.cell 1; have zr1 : w4.frozen? ⟨w.heap.size + 1 + 1, 1, none⟩ = false := Hr4.frozen 1; have cr2 : w4.cell? ⟨w.heap.size + 1 + 1, 2, none⟩ = some (.slice none 0 0) := Hr4.cell 2; have zr2 : w4.frozen? ⟨w.heap.size + 1 + 1, 2, none⟩ = false := Hr4.frozen 2; have cr3 : w4.cell? ⟨w.heap.size + 1 + 1, 3, none⟩ = some (.int .i64 0) := Hr4.cell 3; have zr3 : w4.frozen? ⟨w.heap.size + 1 + 1, 3, none⟩ = false := Hr4.frozen 3; have cr4 : w4.cell? ⟨w.heap.size + 1 + 1, 4, none⟩ = some (.int .i64 0) := Hr4.cell 4; have zr4 : w4.frozen? ⟨w.heap.size + 1 + 1, 4, none⟩ = false := Hr4.frozen 4; have cr5 : w4.cell? ⟨w.heap.size + 1 + 1, 5, none⟩ = some (.slice none 0 0) := Hr4.cell 5; have zr5 : w4.frozen? ⟨w.heap.size + 1 + 1, 5, none⟩ = false := Hr4.frozen 5; have cr6 : w4.cell? ⟨w.heap.size + 1 + 1, 6, none⟩ = some (.nilFunc) := Hr4.cell 6; have zr6 : w4.frozen? ⟨w.heap.size + 1 + 1, 6, none⟩ = false := Hr4.frozen 6; have cq0 : w4.cell? ⟨w.heap.size + 1 + 1 + 1, 0, none⟩ = some (.int .i64 0) := Hq4.cell 0; have zq0 : w4.frozen? ⟨w.heap.size + 1 + 1 + 1, 0, none⟩ = false := Hq4.frozen 0; have cq1 : w4.cell? ⟨w.heap.size + 1 + 1 + 1, 1, none⟩ = some (.int .i64 0) := Hq4.cell 1; have zq1 : w4.frozen? ⟨w.heap.size + 1 + 1 + 1, 1, none⟩ = false := Hq4.frozen 1; have cq2 : w4.cell? ⟨w.heap.size + 1 + 1 + 1, 2, none⟩ = some (.int .i64 0) := Hq4.cell 2; have zq2 : w4.frozen? ⟨w.heap.size + 1 + 1 + 1, 2, none⟩ = false := Hq4.frozen 2; have cq3 : w4.cell? ⟨w.heap.size + 1 + 1 + 1, 3, none⟩ = some (.int .i64 0) := Hq4.cell 3; have zq3 : w4.frozen? ⟨w.heap.size + 1 + 1 + 1, 3, none⟩ = false := Hq4.frozen 3; have cq4 : w4.cell? ⟨w.heap.size + 1 + 1 + 1, 4, none⟩ = some (.int .i64 0) := Hq4.cell 4; have zq4 : w4.frozen? ⟨w.heap.size + 1 + 1 + 1, 4, none⟩ = false := Hq4.frozen 4; have cq5 : w4.cell? ⟨w.heap.size + 1 + 1 + 1, 5, none⟩ = some (.int .i64 0) := Hq4.cell 5; have zq5 : w4.frozen? ⟨w.heap.size + 1 + 1 + 1, 5, none⟩ = false := Hq4.frozen 5; have cq6 : w4.cell? ⟨w.heap.size + 1 + 1 + 1, 6, none⟩ = some (.int .i64 0) := Hq4.cell 6; have zq6 : w4.frozen? ⟨w.heap.size + 1 + 1 + 1, 6, none⟩ = false := Hq4.frozen 6; have cq7 : w4.cell? ⟨w.heap.size + 1 + 1 + 1, 7, none⟩ = some (.int .i64 0) := Hq4.cell 7; have zq7 : w4.frozen? ⟨w.heap.size + 1 + 1 + 1, 7, none⟩ = false := Hq4.frozen 7; have ca0 : w4.cell? ⟨w2.heap.size, 0, none⟩ = some (.int .i64 full) := Ha4.cell 0; have ca1 : w4.cell? ⟨w2.heap.size, 1, none⟩ = some (.int .i64 empty) := Ha4.cell 1; have ca2 : w4.cell? ⟨w2.heap.size, 2, none⟩ = some (.slice A hs.length c) := Ha4.cell 2; have ca3 : w4.cell? ⟨w2.heap.size, 3, none⟩ = some (.int .i64 err) := Ha4.cell 3; have ca4 : w4.cell? ⟨w2.heap.size, 4, none⟩ = some (.int .i64 miss) := Ha4.cell 4; have ca5 : w4.cell? ⟨w2.heap.size, 5, none⟩ = some (.slice G gs.length d) := Ha4.cell 5; have ca6 : w4.cell? ⟨w2.heap.size, 6, none⟩ = some (.func (.func 99) #[.agg #[.int .i64 full, .int .i64 empty, .slice A hs.length c]] #[]) := Ha4.cell 6; have cb0 : w4.cell? ⟨w3.heap.size, 0, none⟩ = some (.int .i64 (boundsOf miss (fun _ => true) hs).l0) := Hb4.cell 0; have cb1 : w4.cell? ⟨w3.heap.size, 1, none⟩ = some (.int .i64 (boundsOf miss (fun _ => true) hs).h0) := Hb4.cell 1; have cb2 : w4.cell? ⟨w3.heap.size, 2, none⟩ = some (.int .i64 (boundsOf miss (fun _ => true) hs).l1) := Hb4.cell 2; have cb3 : w4.cell? ⟨w3.heap.size, 3, none⟩ = some (.int .i64 (boundsOf miss (fun _ => true) hs).h1) := Hb4.cell 3; have cb4 : w4.cell? ⟨w3.heap.size, 4, none⟩ = some (.int .i64 (boundsOf miss (fun _ => true) hs).l2) := Hb4.cell 4; have cb5 : w4.cell? ⟨w3.heap.size, 5, none⟩ = some (.int .i64 (boundsOf miss (fun _ => true) hs).h2) := Hb4.cell 5; have cb6 : w4.cell? ⟨w3.heap.size, 6, none⟩ = some (.int .i64 (boundsOf miss (fun _ => true) hs).l3) := Hb4.cell 6; have cb7 : w4.cell? ⟨w3.heap.size, 7, none⟩ = some (.int .i64 (boundsOf miss (fun _ => true) hs).h3) := Hb4.cell 7))
 go_region
 all_goals go_wp2_with fail
 all_goals
  refine ret_cell3 (t := 147) (r := 153) rfl rfl rfl rfl ?_ ?_ Try.underlying147 rfl (by kernel_rfl) Try.underlying153 rfl (by kernel_rfl) rfl ⟨rfl, zg⟩
  ·exact zp1
  ·exact zp1
end Go.Proofs.Ytifffonoipapgaa
