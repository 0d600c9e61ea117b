
import Derived.Test.YtifffonoipapgaaTAA
import Derived.Test.YtifffonoipapgaaTAC
import Derived.Test.YtifffonoipapgaaTBL
set_option linter.unusedSimpArgs false
set_option linter.unusedVariables false
namespace Go.Proofs.Ytifffonoipapgaa
open Go.RowKit
theorem row5_at {w : World} {B n : Nat} {e : TypeId} {v : Value} {xs : List Value} (h : w.ownsRow B e 5 v n xs) {b : Nat} {t : TypeId} {cs : Array Value} (s : Holds w b t cs) (ht : t ≠ e) : v.ownBlock ≠ some b := by
 intro hb
 obtain ⟨_, ⟨rfl, _⟩ | ⟨g, cap, cur, rfl, _, hg, _⟩⟩ := h
 ·cases hb
 ·cases hb; have := s.symm.trans hg; simp at this; first | exact ht this.2 | exact ht this.2.1
theorem held_row {w w' : World} {b : Nat} {t : TypeId} {cs : Array Value} (s : Holds w b t cs) {row : Option Nat} (g : w.grownBy w' row) (hne : row ≠ some b) : Holds w' b t cs := (g.block b s.lt (fun e => hne e.symm)).trans s
theorem info_come : (Try.prog.info? 42).map (fun i => (i.zero, i.size, i.bytes)) = some (some (.agg #[.int .i64 0, .int .i64 0, .int .i64 0, .int .i64 0, .int .i64 0]), 5, 40) := by kernel_rfl
theorem und_come : Try.prog.underlying 35 = some (.slice 42) := by kernel_rfl
theorem come_at {w : World} {B : Nat} {v : Value} {hs : List Hf} (h : w.ownsRow B 42 5 v hs.length (hs.flatMap Hf.cells)) : ∃ A q, v = .slice A hs.length q ∧ hs.length ≤ q ∧ HandsAt w A hs := by
 obtain ⟨A, q, rfl, hq, hc⟩ := row5_val h
 refine ⟨A, q, rfl, hq, fun h0 => ?_⟩
 obtain ⟨g, rfl, _, hcell⟩ := hc h0
 refine ⟨g, 0, rfl, fun k x hx => ?_⟩
 have f := fun j (hj : j < 5) => flat_at Hf.cells (fun _ => rfl) hs k j x hx hj
 simp only [Nat.zero_add]
 exact ⟨hcell (k * 5) _ (f 0 (by decide)), hcell (k * 5 + 1) _ (f 1 (by decide)), hcell (k * 5 + 2) _ (f 2 (by decide)), hcell (k * 5 + 3) _ (f 3 (by decide)), hcell (k * 5 + 4) _ (f 4 (by decide))⟩
theorem come_snoc {w : World} {B : Nat} {v : Value} {hs : List Hf} {i : Nat} {y : Hf} (hy : hs[i]? = some y) (h : w.ownsRow B 42 5 v (i + 1) ((hs.take i).flatMap Hf.cells ++ y.cells)) : w.ownsRow B 42 5 v (i + 1) ((hs.take (i + 1)).flatMap Hf.cells) := by
 have e : hs.take (i + 1) = hs.take i ++ [y] := by rw [List.take_add_one, hy]; rfl
 rw [e, List.flatMap_append]
 simpa using h
theorem zp9 {p : Prop} (h : p := by (repeat first | (with_reducible first | assumption | apply Holds.set3 | apply Holds.putL | ((refine Holds.new' _ _ ?_); (simp; done)) | refine Holds.alloc ?_ _ | refine Holds.drew ?_ | refine Holds.far ?_ (by simp only [ne_eq]; omega) _) | rfl)) : p := h
set_option maxRecDepth 100000 in
set_option maxHeartbeats 4000000 in
theorem come_any (full emp : Int) (A : Option Addr) (c : Nat) (hs : List Hf) (w : World) (hA : HandsAt w A hs) (hl : hs.length ≤ 1000) :
  Calls Try.prog 20 #[.agg #[.int .i64 full, .int .i64 emp, .slice A hs.length c]] w fun e w' => ∃ A' c', e = .returned (.agg #[.int .i64 full, .int .i64 emp, .slice A' hs.length c']) ∧ w'.ownsRow w.heap.size 42 5 (.slice A' hs.length c') hs.length (hs.flatMap Hf.cells) ∧ Below w.heap.size w w' := by
 have HA := Lib.hid hA
 clear hA
 obtain ⟨ti, hti, hti0, hti1, hti2⟩ := info_parts info_come
 go_enter Try.func20, Try.ntmps20
 go_wp2_with fail
 go_loopw [14] (fun v14 wr => ∃ (i : Nat) (sv : Value), v14 = .int .i64 (i : Int) ∧ i ≤ hs.length ∧ Holds wr (w.heap.size + 1) 37 #[.int .i64 0, .int .i64 0, .slice none 0 0] ∧ Holds wr (w.heap.size + 1 + 1) 37 #[.int .i64 full, .int .i64 emp, sv] ∧ wr.ownsRow (w.heap.size + 1 + 1 + 1) 42 5 sv i ((hs.take i).flatMap Hf.cells) ∧ Below w.heap.size w wr) (fun v14 _ => hs.length - (intOf v14).toNat)
 case atStart => exact ⟨0, .slice none 0 0, rfl, Nat.zero_le _, by (repeat first | (with_reducible first | assumption | apply Holds.set3 | apply Holds.putL | ((refine Holds.new' _ _ ?_); (simp; done)) | refine Holds.alloc ?_ _ | refine Holds.drew ?_ | refine Holds.far ?_ (by simp only [ne_eq]; omega) _) | rfl), by (repeat first | (with_reducible first | assumption | apply Holds.set3 | apply Holds.putL | ((refine Holds.new' _ _ ?_); (simp; done)) | refine Holds.alloc ?_ _ | refine Holds.drew ?_ | refine Holds.far ?_ (by simp only [ne_eq]; omega) _) | rfl), ⟨rfl, .inl ⟨rfl, rfl⟩⟩, zg⟩
 case round =>
  obtain ⟨i, sv, rfl, hi, hres, hout, hrow, hB⟩ := hrel
  obtain ⟨SA, sc, esv, hsc, _⟩ := row5_val hrow
  subst esv
  have HRES := Lib.hid hres
  have HOUT := Lib.hid hout
  have HROW := Lib.hid hrow
  have HB := Lib.hid hB
  have lr := hres.lt
  have lo := hout.lt
  clear hres hrow hB
  obtain ⟨ko0, ko1, ko2⟩ := hout.c3
  clear hout
  by_cases hlt : i < hs.length
  ·have hlt' : (i : Int) < hs.length := by omega
   obtain ⟨y, hy⟩ : ∃ g, hs[i]? = some g := ⟨_, List.getElem?_eq_getElem hlt⟩
   obtain ⟨E0, oo, rfl, hcell⟩ := (HA.out.up HB.out) (by omega)
   obtain ⟨ke0, ke1, ke2, ke3, ke4⟩ := hcell i y hy
   have HY := Lib.hid hy
   have lE := World.block_lt_of_cell? wr _ ke0
   clear hcell hy
   go_wp2_with (at_builtin; (refine wpList_append_own _ rfl _ _ 35 rfl (w.heap.size + 1 + 1 + 1) 42 ti _ 5 40 und_come hti hti0 hti1 hti2 rfl (by decide) _ _ _ rfl (row5_up HROW.out zg) ⟨_, 0, none⟩ 1 1 y.cells rfl rfl (holds_news (Holds.new' _ _ (by simp))) (hand_one _) (by unfold maxLen; omega) (by omega) (by simp; omega) ?_); intro v5 w5 hown5 hgrow5 _; obtain ⟨A5, c5, rfl, _⟩ := row5_val hown5; have HG5 := Lib.hid hgrow5; have HO5 := Lib.hid (come_snoc HY.out hown5); have HOUT5 := Lib.hid (held_row (by have h := HOUT.out; exact zp9 : Holds _ (w.heap.size + 1 + 1) 37 #[.int .i64 full, .int .i64 emp, .slice SA i sc]) hgrow5 (row5_at (row5_up HROW.out zg) (by have h := HOUT.out; exact zp9 : Holds _ (w.heap.size + 1 + 1) 37 #[.int .i64 full, .int .i64 emp, .slice SA i sc]) (by decide))); have HRES5 := Lib.hid (held_row (by have h := HRES.out; exact zp9 : Holds _ (w.heap.size + 1) 37 #[.int .i64 0, .int .i64 0, .slice none 0 0]) hgrow5 (row5_at (row5_up HROW.out zg) (by have h := HRES.out; exact zp9 : Holds _ (w.heap.size + 1) 37 #[.int .i64 0, .int .i64 0, .slice none 0 0]) (by decide))); have hb5 : Below w.heap.size w w5 := Below.grown (HB.out.trans zg) hgrow5 (by simp; omega) (fun k hk => by have := row5_block HROW.out k hk; omega); have HB5 := Lib.hid hb5; have lo5 := HOUT5.out.lt; have ko5 : w5.cell? ⟨w.heap.size + 1 + 1, 2, none⟩ = some (.slice SA i sc) := HOUT5.out.cell 2; have zo5 : w5.frozen? ⟨w.heap.size + 1 + 1, 2, none⟩ = false := HOUT5.out.frozen 2; clear hown5 hgrow5 hb5)
   go_roundw
   case rel => exact ⟨i + 1, _, by go_num, by omega, (by have h := HRES5.out; exact zp9), (by have h := HOUT5.out; exact zp9), row5_far HO5.out (by simp only []; omega) _, HB5.out.trans zg⟩
   case measure => first | (simp [intOf]; done) | (simp [intOf]; omega)
  ·have hie : i = hs.length := by omega
   subst hie
   obtain ⟨kr0, kr1, kr2⟩ := HRES.out.c3
   obtain ⟨zr0, zr1, zr2⟩ := HRES.out.f3
   have hrow := HROW.out
   go_wp2_with fail
   refine ret_cell (t := 37) (cs := #[.int .i64 full, .int .i64 emp, .slice SA hs.length sc]) rfl rfl (by have h := HRES.out; exact zp9) Try.underlying37 rfl (by kernel_rfl) rfl ⟨SA, sc, rfl, ?_, HB.out.trans zg⟩
   rw [List.take_length] at hrow
   exact row5_mono (row5_far (row5_far (row5_far hrow (p := ⟨w.heap.size + 1, 0, none⟩) (by simp only []; omega) _) (p := ⟨w.heap.size + 1, 1, none⟩) (by simp only []; omega) _) (p := ⟨w.heap.size + 1, 2, none⟩) (by simp only []; omega) _) (by omega)
theorem info_theirs : (Try.prog.info? 139).map (fun i => (i.zero, i.size, i.bytes)) = some (some (.agg #[.int .i64 0, .int .i64 0, .int .i64 0, .int .i64 0, .int .i64 0]), 5, 40) := by kernel_rfl
theorem und_theirs : Try.prog.underlying 47 = some (.slice 139) := by kernel_rfl
theorem theirs_at {w : World} {B : Nat} {v : Value} {hs : List Gr} (h : w.ownsRow B 139 5 v hs.length (hs.flatMap Gr.cells)) : ∃ A q, v = .slice A hs.length q ∧ hs.length ≤ q ∧ GradesAt w A hs := by
 obtain ⟨A, q, rfl, hq, hc⟩ := row5_val h
 refine ⟨A, q, rfl, hq, fun h0 => ?_⟩
 obtain ⟨g, rfl, _, hcell⟩ := hc h0
 refine ⟨g, 0, rfl, fun k x hx => ?_⟩
 have f := fun j (hj : j < 5) => flat_at Gr.cells (fun _ => rfl) hs k j x hx hj
 simp only [Nat.zero_add]
 exact ⟨hcell (k * 5) _ (f 0 (by decide)), hcell (k * 5 + 1) _ (f 1 (by decide)), hcell (k * 5 + 2) _ (f 2 (by decide)), hcell (k * 5 + 3) _ (f 3 (by decide)), hcell (k * 5 + 4) _ (f 4 (by decide))⟩
theorem theirs_snoc {w : World} {B : Nat} {v : Value} {hs : List Gr} {i : Nat} {y : Gr} (hy : hs[i]? = some y) (h : w.ownsRow B 139 5 v (i + 1) ((hs.take i).flatMap Gr.cells ++ y.cells)) : w.ownsRow B 139 5 v (i + 1) ((hs.take (i + 1)).flatMap Gr.cells) := by
 have e : hs.take (i + 1) = hs.take i ++ [y] := by rw [List.take_add_one, hy]; rfl
 rw [e, List.flatMap_append]
 simpa using h
set_option maxRecDepth 100000 in
set_option maxHeartbeats 4000000 in
theorem theirs_any (err miss : Int) (A : Option Addr) (c : Nat) (hs : List Gr) (w : World) (hA : GradesAt w A hs) (hl : hs.length ≤ 1000) :
  Calls Try.prog 24 #[.agg #[.int .i64 err, .int .i64 miss, .slice A hs.length c]] w fun e w' => ∃ A' c', e = .returned (.agg #[.int .i64 err, .int .i64 miss, .slice A' hs.length c']) ∧ w'.ownsRow w.heap.size 139 5 (.slice A' hs.length c') hs.length (hs.flatMap Gr.cells) ∧ Below w.heap.size w w' := by
 have HA := Lib.hid hA
 clear hA
 obtain ⟨ti, hti, hti0, hti1, hti2⟩ := info_parts info_theirs
 go_enter Try.func24, Try.ntmps24
 go_wp2_with fail
 go_loopw [14] (fun v14 wr => ∃ (i : Nat) (sv : Value), v14 = .int .i64 (i : Int) ∧ i ≤ hs.length ∧ Holds wr (w.heap.size + 1) 49 #[.int .i64 0, .int .i64 0, .slice none 0 0] ∧ Holds wr (w.heap.size + 1 + 1) 49 #[.int .i64 err, .int .i64 miss, sv] ∧ wr.ownsRow (w.heap.size + 1 + 1 + 1) 139 5 sv i ((hs.take i).flatMap Gr.cells) ∧ Below w.heap.size w wr) (fun v14 _ => hs.length - (intOf v14).toNat)
 case atStart => exact ⟨0, .slice none 0 0, rfl, Nat.zero_le _, by (repeat first | (with_reducible first | assumption | apply Holds.set3 | apply Holds.putL | ((refine Holds.new' _ _ ?_); (simp; done)) | refine Holds.alloc ?_ _ | refine Holds.drew ?_ | refine Holds.far ?_ (by simp only [ne_eq]; omega) _) | rfl), by (repeat first | (with_reducible first | assumption | apply Holds.set3 | apply Holds.putL | ((refine Holds.new' _ _ ?_); (simp; done)) | refine Holds.alloc ?_ _ | refine Holds.drew ?_ | refine Holds.far ?_ (by simp only [ne_eq]; omega) _) | rfl), ⟨rfl, .inl ⟨rfl, rfl⟩⟩, zg⟩
 case round =>
  obtain ⟨i, sv, rfl, hi, hres, hout, hrow, hB⟩ := hrel
  obtain ⟨SA, sc, esv, hsc, _⟩ := row5_val hrow
  subst esv
  have HRES := Lib.hid hres
  have HOUT := Lib.hid hout
  have HROW := Lib.hid hrow
  have HB := Lib.hid hB
  have lr := hres.lt
  have lo := hout.lt
  clear hres hrow hB
  obtain ⟨ko0, ko1, ko2⟩ := hout.c3
  clear hout
  by_cases hlt : i < hs.length
  ·have hlt' : (i : Int) < hs.length := by omega
   obtain ⟨y, hy⟩ : ∃ g, hs[i]? = some g := ⟨_, List.getElem?_eq_getElem hlt⟩
   obtain ⟨E0, oo, rfl, hcell⟩ := (HA.out.up HB.out) (by omega)
   obtain ⟨ke0, ke1, ke2, ke3, ke4⟩ := hcell i y hy
   have HY := Lib.hid hy
   have lE := World.block_lt_of_cell? wr _ ke0
   clear hcell hy
   go_wp2_with (at_builtin; (refine wpList_append_own _ rfl _ _ 47 rfl (w.heap.size + 1 + 1 + 1) 139 ti _ 5 40 und_theirs hti hti0 hti1 hti2 rfl (by decide) _ _ _ rfl (row5_up HROW.out zg) ⟨_, 0, none⟩ 1 1 y.cells rfl rfl (holds_news (Holds.new' _ _ (by simp))) (grade_one _) (by unfold maxLen; omega) (by omega) (by simp; omega) ?_); intro v5 w5 hown5 hgrow5 _; obtain ⟨A5, c5, rfl, _⟩ := row5_val hown5; have HG5 := Lib.hid hgrow5; have HO5 := Lib.hid (theirs_snoc HY.out hown5); have HOUT5 := Lib.hid (held_row (by have h := HOUT.out; exact zp9 : Holds _ (w.heap.size + 1 + 1) 49 #[.int .i64 err, .int .i64 miss, .slice SA i sc]) hgrow5 (row5_at (row5_up HROW.out zg) (by have h := HOUT.out; exact zp9 : Holds _ (w.heap.size + 1 + 1) 49 #[.int .i64 err, .int .i64 miss, .slice SA i sc]) (by decide))); have HRES5 := Lib.hid (held_row (by have h := HRES.out; exact zp9 : Holds _ (w.heap.size + 1) 49 #[.int .i64 0, .int .i64 0, .slice none 0 0]) hgrow5 (row5_at (row5_up HROW.out zg) (by have h := HRES.out; exact zp9 : Holds _ (w.heap.size + 1) 49 #[.int .i64 0, .int .i64 0, .slice none 0 0]) (by decide))); have hb5 : Below w.heap.size w w5 := Below.grown (HB.out.trans zg) hgrow5 (by simp; omega) (fun k hk => by have := row5_block HROW.out k hk; omega); have HB5 := Lib.hid hb5; have lo5 := HOUT5.out.lt; have ko5 : w5.cell? ⟨w.heap.size + 1 + 1, 2, none⟩ = some (.slice SA i sc) := HOUT5.out.cell 2; have zo5 : w5.frozen? ⟨w.heap.size + 1 + 1, 2, none⟩ = false := HOUT5.out.frozen 2; clear hown5 hgrow5 hb5)
   go_roundw
   case rel => exact ⟨i + 1, _, by go_num, by omega, (by have h := HRES5.out; exact zp9), (by have h := HOUT5.out; exact zp9), row5_far HO5.out (by simp only []; omega) _, HB5.out.trans zg⟩
   case measure => first | (simp [intOf]; done) | (simp [intOf]; omega)
  ·have hie : i = hs.length := by omega
   subst hie
   obtain ⟨kr0, kr1, kr2⟩ := HRES.out.c3
   obtain ⟨zr0, zr1, zr2⟩ := HRES.out.f3
   have hrow := HROW.out
   go_wp2_with fail
   refine ret_cell (t := 49) (cs := #[.int .i64 err, .int .i64 miss, .slice SA hs.length sc]) rfl rfl (by have h := HRES.out; exact zp9) Try.underlying49 rfl (by kernel_rfl) rfl ⟨SA, sc, rfl, ?_, HB.out.trans zg⟩
   rw [List.take_length] at hrow
   exact row5_mono (row5_far (row5_far (row5_far hrow (p := ⟨w.heap.size + 1, 0, none⟩) (by simp only []; omega) _) (p := ⟨w.heap.size + 1, 1, none⟩) (by simp only []; omega) _) (p := ⟨w.heap.size + 1, 2, none⟩) (by simp only []; omega) _) (by omega)
end Go.Proofs.Ytifffonoipapgaa
