import Derived.RegionTactic
import Derived.ChangeAlike
import Derived.Test.YtdpgfaikmahmpaaKAA
import Derived.Test.YtdpgfaikmahmpaaKAC
import Derived.Test.YtdpgfaikmahmpaaKAE
import Derived.Test.YtdpgfaikmahmpaaKAM
import Derived.Test.YtdpgfaikmahmpaaKAN
set_option linter.unusedSimpArgs false
set_option linter.unusedVariables false
namespace Go.Proofs.Ytdpgfaikmahmpaa
open Go.RowKit
theorem ret_cell3 {P : Program} {fn : Func} {p q u : Tmp} {ty uy : TypeId} (h : fn.results = #[.cell p ty, .cell q uy, .tmp u]) {a : Act} {w : World} {g k : Nat} {t r : TypeId} {cs ds : Array Value} {d e : TypeDesc} {R : Ending → World → Prop} {v : Value}
  (hp : a.tmps.getD p undef = .pointer (some ⟨g, 0, none⟩)) (hq : a.tmps.getD q undef = .pointer (some ⟨k, 0, none⟩)) (hv : a.tmps.getD u undef = v) (hg : Holds w g t cs) (hk : Holds w k r ds)
  (hu : P.underlying ty = some d) (hd : (match d with | .struct _ | .array _ _ => true | _ => false) = true) (hi : (P.info? ty).map (·.size) = some cs.size)
  (hu' : P.underlying uy = some e) (hd' : (match e with | .struct _ | .array _ _ => true | _ => false) = true) (hi' : (P.info? uy).map (·.size) = some ds.size)
  (hdf : a.defers = []) (hR : R (.returned (.tuple #[.agg cs, .agg ds, v])) w) : bodyPost P fn R .ret a w := by
 refine bodyPost_ret ?_ hdf hR
 have e1 := run_loadVar_row (P := P) w g t ty cs (0, 0) d hg hu hd hi
 have e2 := run_loadVar_row (P := P) w k r uy ds (0, 0) e hk hu' hd' hi'
 simp only [Array.getD_eq_getD_getElem?] at hp hq hv
 simp only [results, h]
 simp [Sem.run_bind, asAddr, hp, hq, hv, e1, e2]
theorem arrive_at (err miss full empty : Int) (G A : Option Addr) (d c : Nat) (gs : List Gr) (hs : List Hf) (w : World) (hG : GradesAt w G gs) (hgl : gs.length ≤ 1000) (hA : HandsAt w A hs) (hl : hs.length ≤ 1000) (he : bothErr err miss gs full empty hs = 0) :
  Calls Try.prog 97 #[.agg #[.int .i64 err, .int .i64 miss, .slice G gs.length d], .agg #[.int .i64 full, .int .i64 empty, .slice A hs.length c]] w fun e w' => e = .returned (.tuple #[.agg #[.int .i64 full, .int .i64 empty, .slice A hs.length c, .int .i64 err, .int .i64 miss, .slice G gs.length d, .func (.func 99) #[.agg #[.int .i64 full, .int .i64 empty, .slice A hs.length c]] #[]], .int .i64 0]) ∧ Below w.heap.size w w' := by
 unfold bothErr at he
 by_cases h : gateErr err miss gs = 0
 ·rw [if_neg (by simpa using h)] at he
  exact arrive_ok err miss full empty G A d c gs hs w hG hgl hA hl h he
 ·rw [if_pos h] at he
  exact absurd he h
theorem bothErr_zero {err miss full empty : Int} {gs : List Gr} {hs : List Hf} (h : bothErr err miss gs full empty hs = 0) : gateErr err miss gs = 0 ∧ cartErr full empty hs = 0 := by
 unfold bothErr at h
 by_cases h1 : gateErr err miss gs = 0
 ·rw [if_neg (by simpa using h1)] at h; exact ⟨h1, h⟩
 ·rw [if_pos h1] at h; exact absurd h h1
theorem bounds_hand (full empty err miss : Int) (A : Option Addr) (c : Nat) (hs : List Hf) (gs : Value) (w : World) (hA : HandsAt w A hs) (hl : hs.length ≤ 1000)
  (m0 : 0 ≤ miss) (m1 : miss ≤ 20) (ht : ∀ x ∈ hs, x.taken = true) (he : ∀ x ∈ hs, x.enough = true) :
  Calls Try.prog 104 #[.agg #[.int .i64 full, .int .i64 empty, .slice A hs.length c, .int .i64 err, .int .i64 miss, gs, .func (.func 99) #[.agg #[.int .i64 full, .int .i64 empty, .slice A hs.length c]] #[]]] w fun e w' =>
   e = .returned (.agg #[.int .i64 (boundsOf miss (fun _ => true) hs).l0, .int .i64 (boundsOf miss (fun _ => true) hs).h0, .int .i64 (boundsOf miss (fun _ => true) hs).l1, .int .i64 (boundsOf miss (fun _ => true) hs).h1, .int .i64 (boundsOf miss (fun _ => true) hs).l2, .int .i64 (boundsOf miss (fun _ => true) hs).h2, .int .i64 (boundsOf miss (fun _ => true) hs).l3, .int .i64 (boundsOf miss (fun _ => true) hs).h3]) ∧ Below w.heap.size w w' :=
 bounds_any full empty err miss A c hs gs _ _ _ _ w hA hl m0 m1 ht he cf_hasHandful (counts_hand full empty A hs.length c w hl)
theorem zp1 {p : Prop} (h : p := by (repeat first | (with_reducible first | assumption | apply Holds.set8 | apply Holds.set7 | apply Holds.set4 | apply Holds.putL | ((refine Holds.new' _ _ ?_); (simp; done)) | refine Holds.alloc ?_ _ | refine Holds.drew ?_ | refine Holds.far ?_ (by simp only [ne_eq]; omega) _) | rfl)) : p := h
set_option maxRecDepth 100000 in
set_option maxHeartbeats 2000000 in
theorem arriveFitting_ok (err miss full empty : Int) (G A : Option Addr) (d c : Nat) (gs : List Gr) (hs : List Hf) (w : World) (hG : GradesAt w G gs) (hgl : gs.length ≤ 1000) (hA : HandsAt w A hs) (hl : hs.length ≤ 1000) (he : bothErr err miss gs full empty hs = 0) (hb : (boundsOf miss (fun _ => true) hs).empty = false) :
  Calls Try.prog 107 #[.agg #[.int .i64 err, .int .i64 miss, .slice G gs.length d], .agg #[.int .i64 full, .int .i64 empty, .slice A hs.length c]] w fun e w' => e = .returned (.tuple #[.agg #[.int .i64 full, .int .i64 empty, .slice A hs.length c, .int .i64 err, .int .i64 miss, .slice G gs.length d, .func (.func 99) #[.agg #[.int .i64 full, .int .i64 empty, .slice A hs.length c]] #[]], .agg #[.int .i64 (boundsOf miss (fun _ => true) hs).l0, .int .i64 (boundsOf miss (fun _ => true) hs).h0, .int .i64 (boundsOf miss (fun _ => true) hs).l1, .int .i64 (boundsOf miss (fun _ => true) hs).h1, .int .i64 (boundsOf miss (fun _ => true) hs).l2, .int .i64 (boundsOf miss (fun _ => true) hs).h2, .int .i64 (boundsOf miss (fun _ => true) hs).l3, .int .i64 (boundsOf miss (fun _ => true) hs).h3], .int .i64 0]) ∧ Below w.heap.size w w' := by
 have HA := Lib.hid hA
 have HG := Lib.hid hG
 clear hA hG
 have hq : (bothErr err miss gs full empty hs != 0) = false := by simp [he]
 obtain ⟨hg0, hc0⟩ := bothErr_zero he
 obtain ⟨_, _, _, m0, m1, _, _⟩ := gateErr_zero hg0
 obtain ⟨_, _, _, _, _, ht, hn⟩ := cartErr_zero hc0
 have HE := Lib.hid he
 have HT := Lib.hid ht
 have HN := Lib.hid hn
 have HB := Lib.hid hb
 clear he hg0 hc0 ht hn hb
 go_enter Try.func107, Try.ntmps107
 go_wp2_with (first | (go_at_call 97; refine (arrive_at err miss full empty G A d c gs hs _ (HG.out.up zg) hgl (HA.out.up zg) hl HE.out).mono ?_; rintro e w2 ⟨rfl, hb2⟩; have Hr2 : Holds w2 (w.heap.size + 1 + 1) 147 #[.int .i64 0, .int .i64 0, .slice none 0 0, .int .i64 0, .int .i64 0, .slice none 0 0, .nilFunc] := Holds.up zp0 hb2; have Hq2 : Holds w2 (w.heap.size + 1 + 1 + 1) 153 #[.int .i64 0, .int .i64 0, .int .i64 0, .int .i64 0, .int .i64 0, .int .i64 0, .int .i64 0, .int .i64 0] := Holds.up zp0 hb2; have hB2 : Below w.heap.size w w2 := Below.trans zg (hb2.mono (by first | omega | (simp; done) | (simp; omega))); have hs2 := hb2.size; simp only [World.size_alloc] at hs2; have hl2 : w.heap.size + 1 + 1 + 1 < w2.heap.size := (by omega); have hl3 : w.heap.size + 1 + 1 < w2.heap.size := (by omega); have HA2 := HA.out.up hB2; clear hb2) | (go_at_call 104; refine (bounds_hand full empty err miss A c hs _ _ (HA2.up ((Below.refl _ _).alloc (Nat.le_refl _) _)) hl m0 m1 HT.out HN.out).mono ?_; rintro e w3 ⟨rfl, hb3⟩; have Hr3 : Holds w3 (w.heap.size + 1 + 1) 147 #[.int .i64 0, .int .i64 0, .slice none 0 0, .int .i64 0, .int .i64 0, .slice none 0 0, .nilFunc] := Holds.up zp0 hb3; have Hq3 : Holds w3 (w.heap.size + 1 + 1 + 1) 153 #[.int .i64 0, .int .i64 0, .int .i64 0, .int .i64 0, .int .i64 0, .int .i64 0, .int .i64 0, .int .i64 0] := Holds.up zp0 hb3; have Ha3 : Holds w3 (w2.heap.size) 147 #[.int .i64 full, .int .i64 empty, .slice A hs.length c, .int .i64 err, .int .i64 miss, .slice G gs.length d, .func (.func 99) #[.agg #[.int .i64 full, .int .i64 empty, .slice A hs.length c]] #[]] := Holds.up zp0 hb3; have hB3 : Below w.heap.size w w3 := Below.trans zg (hb3.mono (by first | omega | (simp; done) | (simp; omega))); have hs3 := hb3.size; simp only [World.size_alloc] at hs3; have hl4 : w2.heap.size < w3.heap.size := (by omega); clear hb3 Hr2 Hq2) | (go_at_call 109; refine (empty_any _ _).mono ?_; rw [HB.out]; rintro e w4 ⟨rfl, hb4⟩; have Hr4 : Holds w4 (w.heap.size + 1 + 1) 147 #[.int .i64 0, .int .i64 0, .slice none 0 0, .int .i64 0, .int .i64 0, .slice none 0 0, .nilFunc] := Holds.up zp0 hb4; have Hq4 : Holds w4 (w.heap.size + 1 + 1 + 1) 153 #[.int .i64 0, .int .i64 0, .int .i64 0, .int .i64 0, .int .i64 0, .int .i64 0, .int .i64 0, .int .i64 0] := Holds.up zp0 hb4; have Ha4 : Holds w4 (w2.heap.size) 147 #[.int .i64 full, .int .i64 empty, .slice A hs.length c, .int .i64 err, .int .i64 miss, .slice G gs.length d, .func (.func 99) #[.agg #[.int .i64 full, .int .i64 empty, .slice A hs.length c]] #[]] := Holds.up zp0 hb4; have Hb4 : Holds w4 (w3.heap.size) 153 #[.int .i64 (boundsOf miss (fun _ => true) hs).l0, .int .i64 (boundsOf miss (fun _ => true) hs).h0, .int .i64 (boundsOf miss (fun _ => true) hs).l1, .int .i64 (boundsOf miss (fun _ => true) hs).h1, .int .i64 (boundsOf miss (fun _ => true) hs).l2, .int .i64 (boundsOf miss (fun _ => true) hs).h2, .int .i64 (boundsOf miss (fun _ => true) hs).l3, .int .i64 (boundsOf miss (fun _ => true) hs).h3] := Holds.up zp0 hb4; have hB4 : Below w.heap.size w w4 := Below.trans zg (hb4.mono (by first | omega | (simp; done) | (simp; omega))); have hs4 := hb4.size; simp only [World.size_alloc] at hs4; have hl5 : w3.heap.size < w4.heap.size := (by omega); have hl6 : w2.heap.size < w4.heap.size := (by omega); have hl7 : w.heap.size + 1 + 1 + 1 < w4.heap.size := (by omega); have hl8 : w.heap.size + 1 + 1 < w4.heap.size := (by omega); clear hb4 Hr3 Hq3 Ha3; have cr0 : w4.cell? ⟨w.heap.size + 1 + 1, 0, none⟩ = some (.int .i64 0) := Hr4.cell 0; have zr0 : w4.frozen? ⟨w.heap.size + 1 + 1, 0, none⟩ = false := Hr4.frozen 0; have cr1 : w4.cell? ⟨w.heap.size + 1 + 1, 1, none⟩ = some (.int .i64 0) := Hr4.cell 1; have zr1 : w4.frozen? ⟨w.heap.size + 1 + 1, 1, none⟩ = false := Hr4.frozen 1; have cr2 : w4.cell? ⟨w.heap.size + 1 + 1, 2, none⟩ = some (.slice none 0 0) := Hr4.cell 2; have zr2 : w4.frozen? ⟨w.heap.size + 1 + 1, 2, none⟩ = false := Hr4.frozen 2; have cr3 : w4.cell? ⟨w.heap.size + 1 + 1, 3, none⟩ = some (.int .i64 0) := Hr4.cell 3; have zr3 : w4.frozen? ⟨w.heap.size + 1 + 1, 3, none⟩ = false := Hr4.frozen 3; have cr4 : w4.cell? ⟨w.heap.size + 1 + 1, 4, none⟩ = some (.int .i64 0) := Hr4.cell 4; have zr4 : w4.frozen? ⟨w.heap.size + 1 + 1, 4, none⟩ = false := Hr4.frozen 4; have cr5 : w4.cell? ⟨w.heap.size + 1 + 1, 5, none⟩ = some (.slice none 0 0) := Hr4.cell 5; have zr5 : w4.frozen? ⟨w.heap.size + 1 + 1, 5, none⟩ = false := Hr4.frozen 5; have cr6 : w4.cell? ⟨w.heap.size + 1 + 1, 6, none⟩ = some (.nilFunc) := Hr4.cell 6; have zr6 : w4.frozen? ⟨w.heap.size + 1 + 1, 6, none⟩ = false := Hr4.frozen 6; have cq0 : w4.cell? ⟨w.heap.size + 1 + 1 + 1, 0, none⟩ = some (.int .i64 0) := Hq4.cell 0; have zq0 : w4.frozen? ⟨w.heap.size + 1 + 1 + 1, 0, none⟩ = false := Hq4.frozen 0; have cq1 : w4.cell? ⟨w.heap.size + 1 + 1 + 1, 1, none⟩ = some (.int .i64 0) := Hq4.cell 1; have zq1 : w4.frozen? ⟨w.heap.size + 1 + 1 + 1, 1, none⟩ = false := Hq4.frozen 1; have cq2 : w4.cell? ⟨w.heap.size + 1 + 1 + 1, 2, none⟩ = some (.int .i64 0) := Hq4.cell 2; have zq2 : w4.frozen? ⟨w.heap.size + 1 + 1 + 1, 2, none⟩ = false := Hq4.frozen 2; have cq3 : w4.cell? ⟨w.heap.size + 1 + 1 + 1, 3, none⟩ = some (.int .i64 0) := Hq4.cell 3; have zq3 : w4.frozen? ⟨w.heap.size + 1 + 1 + 1, 3, none⟩ = false := Hq4.frozen 3; have cq4 : w4.cell? ⟨w.heap.size + 1 + 1 + 1, 4, none⟩ = some (.int .i64 0) := Hq4.cell 4; have zq4 : w4.frozen? ⟨w.heap.size + 1 + 1 + 1, 4, none⟩ = false := Hq4.frozen 4; have cq5 : w4.cell? ⟨w.heap.size + 1 + 1 + 1, 5, none⟩ = some (.int .i64 0) := Hq4.cell 5; have zq5 : w4.frozen? ⟨w.heap.size + 1 + 1 + 1, 5, none⟩ = false := Hq4.frozen 5; have cq6 : w4.cell? ⟨w.heap.size + 1 + 1 + 1, 6, none⟩ = some (.int .i64 0) := Hq4.cell 6; have zq6 : w4.frozen? ⟨w.heap.size + 1 + 1 + 1, 6, none⟩ = false := Hq4.frozen 6; have cq7 : w4.cell? ⟨w.heap.size + 1 + 1 + 1, 7, none⟩ = some (.int .i64 0) := Hq4.cell 7; have zq7 : w4.frozen? ⟨w.heap.size + 1 + 1 + 1, 7, none⟩ = false := Hq4.frozen 7; have ca0 : w4.cell? ⟨w2.heap.size, 0, none⟩ = some (.int .i64 full) := Ha4.cell 0; have ca1 : w4.cell? ⟨w2.heap.size, 1, none⟩ = some (.int .i64 empty) := Ha4.cell 1; have ca2 : w4.cell? ⟨w2.heap.size, 2, none⟩ = some (.slice A hs.length c) := Ha4.cell 2; have ca3 : w4.cell? ⟨w2.heap.size, 3, none⟩ = some (.int .i64 err) := Ha4.cell 3; have ca4 : w4.cell? ⟨w2.heap.size, 4, none⟩ = some (.int .i64 miss) := Ha4.cell 4; have ca5 : w4.cell? ⟨w2.heap.size, 5, none⟩ = some (.slice G gs.length d) := Ha4.cell 5; have ca6 : w4.cell? ⟨w2.heap.size, 6, none⟩ = some (.func (.func 99) #[.agg #[.int .i64 full, .int .i64 empty, .slice A hs.length c]] #[]) := Ha4.cell 6; have cb0 : w4.cell? ⟨w3.heap.size, 0, none⟩ = some (.int .i64 (boundsOf miss (fun _ => true) hs).l0) := Hb4.cell 0; have cb1 : w4.cell? ⟨w3.heap.size, 1, none⟩ = some (.int .i64 (boundsOf miss (fun _ => true) hs).h0) := Hb4.cell 1; have cb2 : w4.cell? ⟨w3.heap.size, 2, none⟩ = some (.int .i64 (boundsOf miss (fun _ => true) hs).l1) := Hb4.cell 2; have cb3 : w4.cell? ⟨w3.heap.size, 3, none⟩ = some (.int .i64 (boundsOf miss (fun _ => true) hs).h1) := Hb4.cell 3; have cb4 : w4.cell? ⟨w3.heap.size, 4, none⟩ = some (.int .i64 (boundsOf miss (fun _ => true) hs).l2) := Hb4.cell 4; have cb5 : w4.cell? ⟨w3.heap.size, 5, none⟩ = some (.int .i64 (boundsOf miss (fun _ => true) hs).h2) := Hb4.cell 5; have cb6 : w4.cell? ⟨w3.heap.size, 6, none⟩ = some (.int .i64 (boundsOf miss (fun _ => true) hs).l3) := Hb4.cell 6; have cb7 : w4.cell? ⟨w3.heap.size, 7, none⟩ = some (.int .i64 (boundsOf miss (fun _ => true) hs).h3) := Hb4.cell 7))
 go_region
 all_goals go_wp2_with fail
 all_goals
  refine ret_cell3 (t := 147) (r := 153) rfl rfl rfl rfl ?_ ?_ Try.underlying147 rfl (by kernel_rfl) Try.underlying153 rfl (by kernel_rfl) rfl ⟨rfl, zg⟩
  ·exact zp1
  ·exact zp1
theorem cf_listed (args : Array Value) (w : World) : (callFunc 140 args).run Try.prog w = .ok (.enter 140 args) w := by kernel_rfl
theorem cf_spot (args : Array Value) (w : World) : (callFunc 118 args).run Try.prog w = .ok (.enter 118 args) w := by kernel_rfl
theorem listed1_any (i : Int) (B : Nat) (A : Option Addr) (c : Nat) (xs : List Int) (w : World) (hc : w.cell? ⟨B, 0, none⟩ = some (.slice A xs.length c)) (hA : IntsAt w A xs) (hl : xs.length ≤ 1000000) :
  Calls Try.prog 140 #[.int .i64 i, .pointer (some ⟨B, 0, none⟩)] w fun e w' => e = .returned (.bool (xs.contains i)) ∧ Below w.heap.size w w' := by
 have HA := Lib.hid hA
 clear hA
 go_enter Try.func140, Try.ntmps140
 go_wp2_with (go_at_call 57; refine (Contains_any A c xs i _ HA.out hl).mono ?_; rintro e w' ⟨rfl, rfl⟩)
 go_ret
 exact ⟨by simp, Below.refl _ _⟩
theorem counts_listed (B : Nat) (A : Option Addr) (c n : Nat) (xs : List Int) (w : World) (hc : w.cell? ⟨B, 0, none⟩ = some (.slice A xs.length c)) (hA : IntsAt w A xs) (hl : xs.length ≤ 1000000) :
  CountsAt w 140 #[] #[.pointer (some ⟨B, 0, none⟩)] (fun i => xs.contains (i : Int)) n := fun i W _ hB =>
 listed1_any i B A c xs W (up_cell hB hc) (hA.up hB) hl
theorem listed_any (A : Option Addr) (c n : Nat) (w : World) :
  Calls Try.prog 116 #[.slice A n c] w fun e w' => e = .returned (.func (.func 140) #[] #[.pointer (some ⟨w.heap.size, 0, none⟩)]) ∧ w' = w.alloc (.cells #[.slice A n c] 87) := by
 have hmf : ∀ (fn : Fn) (first cap : Array Value) (w : World), (Instr.makeFunc fn first cap).run Try.prog w = .ok (.func fn first cap) w := fun _ _ _ _ => rfl
 go_enter Try.func116, Try.ntmps116
 go_wp2_with fail
 go_ret
 exact ⟨rfl, rfl⟩
set_option maxRecDepth 100000 in
set_option maxHeartbeats 1000000 in
theorem agree_any (full empty err miss : Int) (A : Option Addr) (c : Nat) (hs : List Hf) (gs : Value) (cf0 : Value) (F : FuncId) (first cap : Array Value) (p : Nat → Bool) (w : World) (hA : HandsAt w A hs) (hl : hs.length ≤ 1000)
  (m0 : 0 ≤ miss) (m1 : miss ≤ 20) (ht : ∀ x ∈ hs, x.taken = true) (he : ∀ x ∈ hs, x.enough = true)
  (hcf : ∀ (args : Array Value) (w : World), (callFunc F args).run Try.prog w = .ok (.enter F args) w) (hc : CountsAt w F first cap p hs.length) :
  Calls Try.prog 115 #[.agg #[.int .i64 full, .int .i64 empty, .slice A hs.length c, .int .i64 err, .int .i64 miss, gs, cf0], .func (.func F) first cap] w fun e w' => e = .returned (.bool (!(boundsOf miss p hs).empty)) ∧ Below w.heap.size w w' := by
 have HA := Lib.hid hA
 have HT := Lib.hid ht
 have HE := Lib.hid he
 have HC := Lib.hid hc
 have HF := Lib.hid hcf
 clear hA ht he hc hcf
 cases hq : (boundsOf miss p hs).empty
 all_goals
  have HQ := Lib.hid hq
  clear hq
  go_enter Try.func115, Try.ntmps115
  go_wp2_with (first
   | (go_at_call 104; refine (bounds_any full empty err miss A c hs gs F first cap p _ (HA.out.up zg) hl m0 m1 HT.out HE.out HF.out (HC.out.up zg)).mono ?_; rintro e w2 ⟨rfl, hb2⟩; have hB2 : Below w.heap.size w w2 := Below.trans zg (hb2.mono (by first | omega | (simp; done) | (simp; omega))))
   | (go_at_call 109; refine (empty_any _ _).mono ?_; rw [HQ.out]; rintro e w3 ⟨rfl, hb3⟩))
  go_ret
  exact ⟨rfl, hB2.trans (hb3.mono hB2.size)⟩
set_option maxRecDepth 100000 in
theorem topped1_any (i : Nat) (Bc Bs B o n c : Nat) (s spot : Int) (w : World) (hi : i < n) (hn : n ≤ 1000) (h1 : w.cell? ⟨Bc, 2, none⟩ = some (.slice (some ⟨B, o, none⟩) n c)) (h2 : w.cell? ⟨Bs, 0, none⟩ = some (.int .i64 spot)) (h3 : w.cell? ⟨B, o + i * 5, none⟩ = some (.int .i64 s)) :
  Calls Try.prog 118 #[.int .i64 (i : Int), .pointer (some ⟨Bc, 0, none⟩), .pointer (some ⟨Bs, 0, none⟩)] w fun e w' => e = .returned (.bool (s == spot)) ∧ Below w.heap.size w w' := by
 go_enter Try.func118, Try.ntmps118
 go_wp2_with fail
 rename_i Kc hKc
 refine wp_region_parts (by kernel_rfl) 9 [5, 6, 7, 8, 9, 10, 11, 12, 13] (fun t v w' => match t with
  | 5 => v = .pointer (some ⟨Bc, 0, none⟩)
  | 6 => v = .pointer (some ⟨Bc, 2, none⟩)
  | 7 => v = .slice (some ⟨B, o, none⟩) n c
  | 8 => v = .int .i64 (i : Int)
  | 9 => v = .pointer (some ⟨B, o + i * 5, none⟩)
  | 10 => v = .pointer (some ⟨B, o + i * 5, none⟩)
  | 11 => v = .int .i64 s
  | 12 => v = .int .i64 spot
  | 13 => v = .bool (s == spot)
  | _ => True) (by kernel_rfl) ?_ ?_ ?_
 ·intro t v w1 w2 hb' h
  revert h
  split <;> intro h <;> first
   | exact h
 ·refine ⟨?_, ?_, ?_, ?_, ?_, ?_, ?_, ?_, ?_, trivial⟩
  ·intro x w1 hb1 hx K hK
   clear hx hKc
   have k1 : w1.cell? ⟨Bc, 2, none⟩ = some (.slice (some ⟨B, o, none⟩) n c) := up_cell hb1 h1
   have k2 : w1.cell? ⟨Bs, 0, none⟩ = some (.int .i64 spot) := up_cell hb1 h2
   have k3 : w1.cell? ⟨B, o + i * 5, none⟩ = some (.int .i64 s) := up_cell hb1 h3
   simp only [frameOf, fill, sg, Nat.reduceBEq, if_true, if_false, Nat.reduceAdd, Nat.reduceEqDiff] at hK ⊢
   go_wp2_with (fail)
   exact hK _ _ (Below.refl _ _) rfl
  ·intro x w1 hb1 hx K hK
   have e5 : x 5 = .pointer (some ⟨Bc, 0, none⟩) := hx 5 (by rfl)
   clear hx hKc
   have k1 : w1.cell? ⟨Bc, 2, none⟩ = some (.slice (some ⟨B, o, none⟩) n c) := up_cell hb1 h1
   have k2 : w1.cell? ⟨Bs, 0, none⟩ = some (.int .i64 spot) := up_cell hb1 h2
   have k3 : w1.cell? ⟨B, o + i * 5, none⟩ = some (.int .i64 s) := up_cell hb1 h3
   simp only [frameOf, fill, sg, Nat.reduceBEq, if_true, if_false, Nat.reduceAdd, Nat.reduceEqDiff] at hK ⊢
   simp only [e5] at hK ⊢
   clear e5
   go_wp2_with (fail)
   exact hK _ _ (Below.refl _ _) rfl
  ·intro x w1 hb1 hx K hK
   have e6 : x 6 = .pointer (some ⟨Bc, 2, none⟩) := hx 6 (by rfl)
   clear hx hKc
   have k1 : w1.cell? ⟨Bc, 2, none⟩ = some (.slice (some ⟨B, o, none⟩) n c) := up_cell hb1 h1
   have k2 : w1.cell? ⟨Bs, 0, none⟩ = some (.int .i64 spot) := up_cell hb1 h2
   have k3 : w1.cell? ⟨B, o + i * 5, none⟩ = some (.int .i64 s) := up_cell hb1 h3
   simp only [frameOf, fill, sg, Nat.reduceBEq, if_true, if_false, Nat.reduceAdd, Nat.reduceEqDiff] at hK ⊢
   simp only [e6] at hK ⊢
   clear e6
   go_wp2_with (fail)
   exact hK _ _ (Below.refl _ _) rfl
  ·intro x w1 hb1 hx K hK
   clear hx hKc
   have k1 : w1.cell? ⟨Bc, 2, none⟩ = some (.slice (some ⟨B, o, none⟩) n c) := up_cell hb1 h1
   have k2 : w1.cell? ⟨Bs, 0, none⟩ = some (.int .i64 spot) := up_cell hb1 h2
   have k3 : w1.cell? ⟨B, o + i * 5, none⟩ = some (.int .i64 s) := up_cell hb1 h3
   simp only [frameOf, fill, sg, Nat.reduceBEq, if_true, if_false, Nat.reduceAdd, Nat.reduceEqDiff] at hK ⊢
   go_wp2_with (fail)
   exact hK _ _ (Below.refl _ _) rfl
  ·intro x w1 hb1 hx K hK
   have e7 : x 7 = .slice (some ⟨B, o, none⟩) n c := hx 7 (by rfl)
   have e8 : x 8 = .int .i64 (i : Int) := hx 8 (by rfl)
   clear hx hKc
   have k1 : w1.cell? ⟨Bc, 2, none⟩ = some (.slice (some ⟨B, o, none⟩) n c) := up_cell hb1 h1
   have k2 : w1.cell? ⟨Bs, 0, none⟩ = some (.int .i64 spot) := up_cell hb1 h2
   have k3 : w1.cell? ⟨B, o + i * 5, none⟩ = some (.int .i64 s) := up_cell hb1 h3
   simp only [frameOf, fill, sg, Nat.reduceBEq, if_true, if_false, Nat.reduceAdd, Nat.reduceEqDiff] at hK ⊢
   simp only [e7, e8] at hK ⊢
   clear e7 e8
   go_wp2_with (fail)
   exact hK _ _ (Below.refl _ _) rfl
  ·intro x w1 hb1 hx K hK
   have e9 : x 9 = .pointer (some ⟨B, o + i * 5, none⟩) := hx 9 (by rfl)
   clear hx hKc
   have k1 : w1.cell? ⟨Bc, 2, none⟩ = some (.slice (some ⟨B, o, none⟩) n c) := up_cell hb1 h1
   have k2 : w1.cell? ⟨Bs, 0, none⟩ = some (.int .i64 spot) := up_cell hb1 h2
   have k3 : w1.cell? ⟨B, o + i * 5, none⟩ = some (.int .i64 s) := up_cell hb1 h3
   simp only [frameOf, fill, sg, Nat.reduceBEq, if_true, if_false, Nat.reduceAdd, Nat.reduceEqDiff] at hK ⊢
   simp only [e9] at hK ⊢
   clear e9
   go_wp2_with (fail)
   exact hK _ _ (Below.refl _ _) rfl
  ·intro x w1 hb1 hx K hK
   have e10 : x 10 = .pointer (some ⟨B, o + i * 5, none⟩) := hx 10 (by rfl)
   clear hx hKc
   have k1 : w1.cell? ⟨Bc, 2, none⟩ = some (.slice (some ⟨B, o, none⟩) n c) := up_cell hb1 h1
   have k2 : w1.cell? ⟨Bs, 0, none⟩ = some (.int .i64 spot) := up_cell hb1 h2
   have k3 : w1.cell? ⟨B, o + i * 5, none⟩ = some (.int .i64 s) := up_cell hb1 h3
   simp only [frameOf, fill, sg, Nat.reduceBEq, if_true, if_false, Nat.reduceAdd, Nat.reduceEqDiff] at hK ⊢
   simp only [e10] at hK ⊢
   clear e10
   go_wp2_with (fail)
   exact hK _ _ (Below.refl _ _) rfl
  ·intro x w1 hb1 hx K hK
   clear hx hKc
   have k1 : w1.cell? ⟨Bc, 2, none⟩ = some (.slice (some ⟨B, o, none⟩) n c) := up_cell hb1 h1
   have k2 : w1.cell? ⟨Bs, 0, none⟩ = some (.int .i64 spot) := up_cell hb1 h2
   have k3 : w1.cell? ⟨B, o + i * 5, none⟩ = some (.int .i64 s) := up_cell hb1 h3
   simp only [frameOf, fill, sg, Nat.reduceBEq, if_true, if_false, Nat.reduceAdd, Nat.reduceEqDiff] at hK ⊢
   go_wp2_with (fail)
   exact hK _ _ (Below.refl _ _) rfl
  ·intro x w1 hb1 hx K hK
   have e11 : x 11 = .int .i64 s := hx 11 (by rfl)
   have e12 : x 12 = .int .i64 spot := hx 12 (by rfl)
   clear hx hKc
   have k1 : w1.cell? ⟨Bc, 2, none⟩ = some (.slice (some ⟨B, o, none⟩) n c) := up_cell hb1 h1
   have k2 : w1.cell? ⟨Bs, 0, none⟩ = some (.int .i64 spot) := up_cell hb1 h2
   have k3 : w1.cell? ⟨B, o + i * 5, none⟩ = some (.int .i64 s) := up_cell hb1 h3
   simp only [frameOf, fill, sg, Nat.reduceBEq, if_true, if_false, Nat.reduceAdd, Nat.reduceEqDiff] at hK ⊢
   simp only [e11, e12] at hK ⊢
   clear e11 e12
   go_wp2_with (fail)
   exact hK _ _ (Below.refl _ _) rfl
 ·intro x w1 hb1 hx
  have e5 : x 5 = .pointer (some ⟨Bc, 0, none⟩) := hx 5 (by decide)
  have e6 : x 6 = .pointer (some ⟨Bc, 2, none⟩) := hx 6 (by decide)
  have e7 : x 7 = .slice (some ⟨B, o, none⟩) n c := hx 7 (by decide)
  have e8 : x 8 = .int .i64 (i : Int) := hx 8 (by decide)
  have e9 : x 9 = .pointer (some ⟨B, o + i * 5, none⟩) := hx 9 (by decide)
  have e10 : x 10 = .pointer (some ⟨B, o + i * 5, none⟩) := hx 10 (by decide)
  have e11 : x 11 = .int .i64 s := hx 11 (by decide)
  have e12 : x 12 = .int .i64 spot := hx 12 (by decide)
  have e13 : x 13 = .bool (s == spot) := hx 13 (by decide)
  clear hx
  have k1 : w1.cell? ⟨Bc, 2, none⟩ = some (.slice (some ⟨B, o, none⟩) n c) := up_cell hb1 h1
  have k2 : w1.cell? ⟨Bs, 0, none⟩ = some (.int .i64 spot) := up_cell hb1 h2
  have k3 : w1.cell? ⟨B, o + i * 5, none⟩ = some (.int .i64 s) := up_cell hb1 h3
  simp only [frameOf, fill, List.contains_cons, List.contains_nil, Nat.reduceBEq, Bool.or_false, Bool.false_or, Bool.or_true, Bool.true_or, if_true, if_false, Bool.false_eq_true, Nat.reduceAdd, Nat.zero_add]
  simp only [e5, e6, e7, e8, e9, e10, e11, e12, e13]
  clear e5 e6 e7 e8 e9 e10 e11 e12 e13
  go_wp2_with fail
  go_ret
  exact ⟨rfl, hb1⟩
theorem counts_spot (Bc Bs : Nat) (A : Option Addr) (c : Nat) (hs : List Hf) (spot : Int) (w : World) (hn : hs.length ≤ 1000) (h1 : w.cell? ⟨Bc, 2, none⟩ = some (.slice A hs.length c)) (h2 : w.cell? ⟨Bs, 0, none⟩ = some (.int .i64 spot)) (hA : HandsAt w A hs) :
  CountsAt w 118 #[] #[.pointer (some ⟨Bc, 0, none⟩), .pointer (some ⟨Bs, 0, none⟩)] (fun i => ((hs[i]?).map Hf.spot).getD 0 == spot) hs.length := fun i W hi hB => by
 obtain ⟨B, o, rfl, hc⟩ := (hA.up hB) (by omega)
 obtain ⟨c0, _⟩ := hc i _ (List.getElem?_eq_getElem hi)
 have := topped1_any i Bc Bs B o hs.length c hs[i].spot spot W hi hn (up_cell hB h1) (up_cell hB h2) c0
 simpa [List.getElem?_eq_getElem hi] using this
end Go.Proofs.Ytdpgfaikmahmpaa
