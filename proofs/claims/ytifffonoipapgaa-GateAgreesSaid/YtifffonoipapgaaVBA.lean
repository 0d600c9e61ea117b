import Derived.Shelf.Abstract
import Derived.Test.YtifffonoipapgaaVAA
import Derived.Test.YtifffonoipapgaaVAC
import Derived.Test.YtifffonoipapgaaVAO
import Derived.Test.YtifffonoipapgaaVAZ
set_option linter.unusedSimpArgs false
set_option linter.unusedVariables false
namespace Go.Proofs.Ytifffonoipapgaa
open Go.RowKit
open Go.RowKit Go.Maps Go.Shelf
attribute [local go_sem] Oper.semAt_some
def ShownPost (miss : Int) (gs : List Gr) (hs : List Hf) (w : World) (e : Ending) (w' : World) : Prop :=
 ∃ mb, e = .returned (.map (some mb)) ∧ MapAt mb 10 (shownD (boundsOf miss (fun _ => true) hs) gs (gs.length + 1)) w' ∧ Below w.heap.size w w'
def gradeAt (a : Act) (w : World) : Int := match a.tmps.getD 4 undef with
 | .pointer (some p) => intOf ((w.cell? p).getD undef)
 | _ => 0
def shownMu (gs : List Gr) (a : Act) (w : World) : Nat := ((gs.length : Int) + 1 - gradeAt a w).toNat
def ShownRel (err miss full empty : Int) (G A : Option Addr) (d c : Nat) (gs : List Gr) (hs : List Hf) (w : World) (a : Act) (wr : World) : Prop :=
 ∃ (j Bg : Nat) (ms : List Nat) (u5 u7 u8 u9 u10 u11 u12 u13 u14 u15 u16 u17 u18 u19 u20 u21 u22 u23 u24 u25 u26 u27 : Value), a = { tmps := #[.agg #[.int .i64 full, .int .i64 empty, .slice A hs.length c, .int .i64 err, .int .i64 miss, .slice G gs.length d, .func (.func 99) #[.agg #[.int .i64 full, .int .i64 empty, .slice A hs.length c]] #[]], .pointer (some ⟨w.heap.size, 0, none⟩), .map none, .pointer (some ⟨w.heap.size + 1 + 1, 0, none⟩), .pointer (some ⟨Bg, 0, none⟩), u5, .map (some (w.heap.size + 1)), u7, u8, u9, u10, u11, u12, u13, u14, u15, u16, u17, u18, u19, u20, u21, u22, u23, u24, u25, u26, u27], defers := ms.map mark } ∧ j ≤ gs.length + 1 ∧ ms.Nodup ∧ (∀ D ∈ ms, w.heap.size + 1 + 1 < D ∧ wr.heap[D]? = some (.deferred (some []))) ∧ Below w.heap.size w wr ∧
  Holds wr w.heap.size 147 #[.int .i64 full, .int .i64 empty, .slice A hs.length c, .int .i64 err, .int .i64 miss, .slice G gs.length d, .func (.func 99) #[.agg #[.int .i64 full, .int .i64 empty, .slice A hs.length c]] #[]] ∧ Holds wr (w.heap.size + 1 + 1) 166 #[.map (some (w.heap.size + 1))] ∧ Holds wr Bg 3 #[.int .i64 ((j : Int) - 1)] ∧ w.heap.size + 1 + 1 < Bg ∧ MapAt (w.heap.size + 1) j (shownD (boundsOf miss (fun _ => true) hs) gs j) wr
def allEmpty (pre : List OBx) : Prop := ∀ x ∈ pre, x.1.empty = true
def Found (D : DataW Unit) (j mb : Nat) (W2 : World) (c : Code) (pre : List OBx) (W : World) : Prop :=
 c = .exit 2 ∧ ∃ p x, pre = p ++ [x] ∧ allEmpty p ∧ x.1.empty = false ∧ W2.grownBy W (some mb) ∧ MapAt mb (j + 1) (D.put (keyAt j) (mixOf x.1)) W
theorem found_own (D : DataW Unit) (j mb : Nat) (W2 : World) (hmb : mb < W2.heap.size) (c : Code) : OwnFrom W2.heap.size (Found D j mb W2 c) := by
 rintro s W W' row ⟨rfl, p, x, rfl, hp, hx, hg, hm⟩ hg' hr
 have hne : some mb ≠ row := fun e => by have := (hr mb e.symm).1; omega
 exact ⟨rfl, p, x, rfl, hp, hx, ⟨hg'.os.trans hg.os, hg'.tape.trans hg.tape, hg'.output.trans hg.output, Nat.le_trans hg.size hg'.size, fun k hk hkm => (hg'.block k (Nat.lt_of_lt_of_le hk hg.size) (fun e => by have := (hr k e.symm).1; omega)).trans (hg.block k hk hkm)⟩, World.ownsMap.kept hm hg' hne⟩
theorem shown_none {b : OBx} {gs : List Gr} {i : Option Nat} (h : allEmpty (boxesO b gs i)) : shownBx b.1 gs i = none := by
 unfold shownBx
 rw [← boxesO_map, List.find?_eq_none]
 intro c hc
 obtain ⟨x, hx, rfl⟩ := List.mem_map.1 hc
 simp [h x hx]
theorem shown_some {b : OBx} {gs : List Gr} {i : Option Nat} {p : List OBx} {x : OBx} (h : p ++ [x] <+: boxesO b gs i) (hp : allEmpty p) (hx : x.1.empty = false) : shownBx b.1 gs i = some x.1 := by
 obtain ⟨r, hr⟩ := h
 unfold shownBx
 rw [← boxesO_map, ← hr]
 simp only [List.map_append, List.map_cons, List.map_nil, List.append_assoc, List.find?_append]
 have : (p.map (·.1)).find? (fun c => !c.empty) = none := by
  rw [List.find?_eq_none]
  intro c hc
  obtain ⟨y, hy, rfl⟩ := List.mem_map.1 hc
  simp [hp y hy]
 rw [this]
 simp [hx]
theorem MapAt.shut {mb n : Nat} {D : DataW Unit} {ms : List Nat} {w w' : World} (h : MapAt mb n D w) (hs : Shut ms w w') (hm : mb ∉ ms) : MapAt mb n D w' := by
 obtain ⟨es, clock, hb, F, hz, hD⟩ := h
 exact ⟨es, clock, (hs.same mb hm).trans hb, F, hz, hD⟩
theorem MapAt.mono {mb n m : Nat} {D : DataW Unit} {w : World} (h : MapAt mb n D w) (hm : n ≤ m) : MapAt mb m D w := World.ownsMap.mono h hm
theorem shownD_yes {b c : Bx} {gs : List Gr} {j : Nat} (h : shownBx b gs (ix j) = some c) : shownD b gs (j + 1) = (shownD b gs j).put (keyAt j) (mixOf c) := by rw [shownD, h]
theorem shownD_no {b : Bx} {gs : List Gr} {j : Nat} (h : shownBx b gs (ix j) = none) : shownD b gs (j + 1) = shownD b gs j := by rw [shownD, h]
theorem mu_lt {gs : List Gr} {a a' : Act} {w w' : World} {B B' : Nat} {v v' : Int} (hc : w'.cell? ⟨B, 0, none⟩ = some (.int .i64 v)) (hc' : w.cell? ⟨B', 0, none⟩ = some (.int .i64 v')) (h : a'.tmps.getD 4 undef = .pointer (some ⟨B, 0, none⟩)) (h' : a.tmps.getD 4 undef = .pointer (some ⟨B', 0, none⟩)) (hv : v' < v) (hl : v' ≤ gs.length) : shownMu gs a' w' < shownMu gs a w := by
 have e1 : gradeAt a' w' = v := by unfold gradeAt; rw [h]; simp only [hc]; rfl
 have e2 : gradeAt a w = v' := by unfold gradeAt; rw [h']; simp only [hc']; rfl
 unfold shownMu
 rw [e1, e2]
 omega
theorem block_grown {W w : World} {mb k : Nat} {o : Obj} (hg : W.grownBy w (some mb)) (h : W.heap[k]? = some o) (hne : k ≠ mb) : w.heap[k]? = some o :=
 (hg.block k (Array.getElem?_eq_some_iff.1 h).1 (fun e => hne (by cases e; rfl))).trans h
set_option maxRecDepth 100000 in
set_option maxHeartbeats 8000000 in
theorem shown_any (err miss full empty : Int) (G A : Option Addr) (d c : Nat) (gs : List Gr) (hs : List Hf) (w : World) (hG : GradesAt w G gs) (hgl : gs.length ≤ 4) (hgd : gs.length ≤ d) (hgr : ∀ g ∈ gs, g.right = true) (hA : HandsAt w A hs) (hl : hs.length ≤ 6) (m0 : 0 ≤ miss) (m1 : miss ≤ 20) (ht : ∀ x ∈ hs, x.taken = true) (hn : ∀ x ∈ hs, x.enough = true) :
  Calls Try.prog 121 #[.agg #[.int .i64 full, .int .i64 empty, .slice A hs.length c, .int .i64 err, .int .i64 miss, .slice G gs.length d, .func (.func 99) #[.agg #[.int .i64 full, .int .i64 empty, .slice A hs.length c]] #[]]] w (ShownPost miss gs hs w) := by
 have HG := Lib.hid hG
 have HA := Lib.hid hA
 have HT := Lib.hid ht
 have HN := Lib.hid hn
 have HR := Lib.hid hgr
 clear hG hA ht hn hgr
 have hmm := @run_makeMap Try.prog
 refine (callsIn_wide (n := 8)).1 (callsIn_of_wp_marks Try.func121 rfl trivial ?_ rfl)
 refine wpIn_wide.2 ?_
 simp only [Try.ntmps121, List.size_toArray, List.length_cons, List.length_nil, Nat.reduceAdd, Nat.reduceSub, Array.replicate_succ, Array.replicate_zero, List.push_toArray, List.append_toArray, List.nil_append, List.cons_append]
 go_wp2_with fail
 refine wp_loop (ShownRel err miss full empty G A d c gs hs w) (shownMu gs) ?_ ?_
 ·exact ⟨0, w.heap.size + 1 + 1 + 1, [], undef, undef, undef, undef, undef, undef, undef, undef, undef, undef, undef, undef, undef, undef, undef, undef, undef, undef, undef, undef, undef, undef, rfl, by omega, List.nodup_nil, by simp, zg, zp1, zp1, (by show Holds _ _ _ #[.int .i64 (-1)]; (repeat first | (with_reducible first | assumption | apply Holds.set8 | apply Holds.set7 | apply Holds.set4 | apply Holds.putL | ((refine Holds.new' _ _ ?_); (simp; done)) | refine Holds.alloc ?_ _ | refine Holds.drew ?_ | refine Holds.far ?_ (by simp only [ne_eq]; omega) _) | rfl)), by omega, (by have h := (((World.ownsMap_made (w.alloc (.cells #[.int .i64 full, .int .i64 empty, .slice A hs.length c, .int .i64 err, .int .i64 miss, .slice G gs.length d, .func (.func 99) #[.agg #[.int .i64 full, .int .i64 empty, .slice A hs.length c]] #[]] 147)) Try.prog 3 mixElem).alloc (.cells #[.map (some (w.heap.size + 1))] 166)).alloc (.cells #[.int .i64 (-1)] 3)); rw [World.size_alloc] at h; exact h)⟩
 ·rintro a wr ⟨j, Bg, ms, u5, u7, u8, u9, u10, u11, u12, u13, u14, u15, u16, u17, u18, u19, u20, u21, u22, u23, u24, u25, u26, u27, rfl, hj, hnd, hms, hB, Hc, Hm, Hg, hBg, hmap⟩
  have hlt := Hc.lt
  have hltm := Hm.lt
  have hltg := Hg.lt
  have k5 : wr.cell? ⟨w.heap.size, 5, none⟩ = some (.slice G gs.length d) := Hc.cell 5
  have km : wr.cell? ⟨w.heap.size + 1 + 1, 0, none⟩ = some (.map (some (w.heap.size + 1))) := Hm.cell 0
  have kg : wr.cell? ⟨Bg, 0, none⟩ = some (.int .i64 ((j : Int) - 1)) := Hg.cell 0
  have HMS := Lib.hid hms
  have HMAP := Lib.hid hmap
  have HB := Lib.hid hB
  have HND := Lib.hid hnd
  have hSw := hB.size
  clear hms hmap hB hnd
  by_cases hjl : j ≤ gs.length
  ·have hjt : ((j : Int) - 1 < (gs.length : Int)) := by omega
   obtain ⟨kc0, kc1, kc2, kc3, kc4, kc5, kc6⟩ := Hc.c7
   go_wp2_with (go_at_call 142; refine (boxes_any full empty err miss _ _ _ _ _).mono ?_; rintro e w2 ⟨rfl, rfl⟩)
   refine wp_world (fun W2 => Below wr.heap.size wr W2 ∧ wr.heap.size + 1 < W2.heap.size ∧ Holds W2 wr.heap.size 147 #[.int .i64 full, .int .i64 empty, .slice A hs.length c, .int .i64 err, .int .i64 miss, .slice G gs.length d, .func (.func 99) #[.agg #[.int .i64 full, .int .i64 empty, .slice A hs.length c]] #[]] ∧ Holds W2 (wr.heap.size + 1) 3 #[.int .i64 ((j : Int) - 1)] ∧ True) ?_ ?_
   ·exact ⟨zg, (by simp), zp1, zp1, trivial⟩
   rintro W2 ⟨hB2, hS2, Hc2, Hg2, -⟩
   have hBw2 : Below w.heap.size w W2 := HB.out.trans (hB2.mono hSw)
   have HM2 := Lib.hid (Hm.up hB2)
   have HG2 := Lib.hid (Hg.up hB2)
   have HC2 := Lib.hid (Hc.up hB2)
   have HMAP2 : Hid (MapAt (w.heap.size + 1) j (shownD (boundsOf miss (fun _ => true) hs) gs j) W2) := Lib.hid (HMAP.out.up hB2)
   have HMS2 : Hid (∀ D ∈ ms, w.heap.size + 1 + 1 < D ∧ W2.heap[D]? = some (.deferred (some []))) := Lib.hid (fun D hD => ⟨(HMS.out D hD).1, (hB2.block D (Array.getElem?_eq_some_iff.1 (HMS.out D hD).2).1).trans (HMS.out D hD).2⟩)
   have hse := stops_any 7 wr.heap.size (wr.heap.size + 1) err miss full empty G A d c gs hs j W2 Hc2 Hg2 hjl (HG.out.up hBw2) hgl hgd HR.out (HA.out.up hBw2) hl m0 m1 HT.out HN.out
   clear hB2
   refine wpIn_wide.1 (wpIn_rangeFunc_ownH (n := 8) rfl (by decide) (gf := 147) (lb := #[.pointer (some ⟨wr.heap.size, 0, none⟩), .pointer (some ⟨wr.heap.size + 1, 0, none⟩)]) rfl trivial (enters_of Try.func147 (by kernel_rfl) rfl)
    hse (fun h k => h.trans k) (fun W l o o' hl h ho _ => ⟨by simp, fun k cs t fr hk => (World.putObj_heap_other (by rintro rfl; rw [hk] at h; cases h; cases ho)).trans hk⟩) (Below.refl _ _) (fun _ => rfl)
    (fun pre W => allEmpty pre ∧ Below W2.heap.size W2 W) (Found (shownD (boundsOf miss (fun _ => true) hs) gs j) j (w.heap.size + 1) W2)
    (fun s A' B' row hs hg hr => ⟨hs.1, ownFrom_below (β := Unit) (Nat.le_refl _) (Nat.le_refl _) () A' B' row hs.2 hg hr⟩) (fun c => found_own _ _ _ _ (by omega) c) ⟨(by intro x hx; cases hx), Below.refl _ _⟩
    (fun x a' W => ∃ Bx, W2.heap.size ≤ Bx ∧ Holds W Bx 153 #[.int .i64 x.1.l0, .int .i64 x.1.h0, .int .i64 x.1.l1, .int .i64 x.1.h1, .int .i64 x.1.l2, .int .i64 x.1.h2, .int .i64 x.1.l3, .int .i64 x.1.h3] ∧ a' = { tmps := #[.agg #[.int .i64 full, .int .i64 empty, .slice A hs.length c, .int .i64 err, .int .i64 miss, .slice G gs.length d, .func (.func 99) #[.agg #[.int .i64 full, .int .i64 empty, .slice A hs.length c]] #[]], .pointer (some ⟨w.heap.size, 0, none⟩), .map none, .pointer (some ⟨w.heap.size + 1 + 1, 0, none⟩), .pointer (some ⟨Bg, 0, none⟩), .pointer (some ⟨Bx, 0, none⟩), .map (some (w.heap.size + 1)), .int .i64 ((j : Int) - 1), .pointer (some ⟨w.heap.size, 3, none⟩), .pointer (some ⟨w.heap.size, 5, none⟩), .slice G gs.length d, .int .i64 (gs.length : Int), .bool true, u13, u14, .agg #[.int .i64 full, .int .i64 empty, .slice A hs.length c, .int .i64 err, .int .i64 miss, .slice G gs.length d, .func (.func 99) #[.agg #[.int .i64 full, .int .i64 empty, .slice A hs.length c]] #[]], .int .i64 ((j : Int) - 1), .func (.func 147) #[] #[.pointer (some ⟨wr.heap.size, 0, none⟩), .pointer (some ⟨wr.heap.size + 1, 0, none⟩)], .agg #[.int .i64 x.1.l0, .int .i64 x.1.h0, .int .i64 x.1.l1, .int .i64 x.1.h1, .int .i64 x.1.l2, .int .i64 x.1.h2, .int .i64 x.1.l3, .int .i64 x.1.h3], u19, u20, u21, u22, u23, u24, u25, u26, u27], defers := [] })
    (fun x a' _ X Y row hs hg hr => by obtain ⟨Bx, h1, h2, h3⟩ := hs; exact ⟨Bx, h1, (hg.block Bx h2.lt (fun e => by obtain ⟨o, ho, hc⟩ := (hr Bx e.symm).2; rw [show X.heap[Bx]? = _ from h2] at ho; cases ho; cases hc)).trans h2, h3⟩) ?assign ?body ?done ?stop)
   case assign =>
    rintro l pre x W K ⟨hemp, hb⟩ hK
    obtain ⟨xb, xo⟩ := x
    dsimp only [bxVal]
    gi_wp2
    have hbel : Below W.heap.size W _ := (Below.refl W.heap.size W).alloc (Nat.le_refl _) (.cells #[.int .i64 xb.l0, .int .i64 xb.h0, .int .i64 xb.l1, .int .i64 xb.h1, .int .i64 xb.l2, .int .i64 xb.h2, .int .i64 xb.l3, .int .i64 xb.h3] 153)
    exact hK _ _ (KeepsFrom.below hbel) (CKept.of hbel) ⟨hemp, hb.trans (hbel.mono hb.size)⟩ ⟨W.heap.size, hb.size, Holds.new _ _ _, rfl⟩
   case body =>
    rintro l pre x a' W6 hl' ⟨r, hr⟩ ⟨hemp, hb6⟩ ⟨Bx, hBx, HX, rfl⟩ hlt6
    have HM6 := Lib.hid (HM2.out.up hb6)
    have HG6 := Lib.hid (HG2.out.up hb6)
    have HX6 := Lib.hid HX
    have HMAP6 : Hid (MapAt (w.heap.size + 1) j (shownD (boundsOf miss (fun _ => true) hs) gs j) W6) := Lib.hid (HMAP2.out.up hb6)
    obtain ⟨r0, r1, r2, r3, r4, r5, r6, r7⟩ := HX.c8
    cases hq : x.1.empty with
    | true =>
     have HQ := Lib.hid hq
     clear hq
     gi_wp2_with (refine ⟨trivial, ?_⟩; gi_at_call 109; refine (CallsIn.inRound l (callsIn_wide.2 (empty_any x.1 _))).mono ?_; rw [HQ.out]; rintro e w3 ⟨rfl, hb3⟩)
     refine ⟨KeepsFrom.below hb3, CKept.of hb3, ?_, hb6.trans (hb3.mono hb6.size)⟩
     intro y hy
     rcases List.mem_append.1 hy with h | h
     ·exact hemp y h
     ·simp at h; subst h; exact HQ.out
    | false =>
     have HQ := Lib.hid hq
     clear hq
     gi_wp2_with (refine ⟨trivial, ?_⟩; gi_at_call 109; refine (CallsIn.inRound l (callsIn_wide.2 (empty_any x.1 _))).mono ?_; rw [HQ.out]; rintro e w3 ⟨rfl, hb3⟩)
     have HB3 := Lib.hid hb3
     rename_i Kc hKc
     have HSL := Lib.hid (show slotsOf [some 22, some 23, some 24, some 25, none] = [22, 23, 24, 25] from rfl)
     refine wp_region_partsGI (by kernel_rfl) [some 22, some 23, some 24, some 25, none] (fun jq xq w' => match jq with
      | 0 => xq 22 = .map (some (w.heap.size + 1))
      | 1 => xq 23 = .int .i64 ((j : Int) - 1)
      | 2 => xq 24 = .agg #[.int .i64 x.1.l0, .int .i64 x.1.h0, .int .i64 x.1.l1, .int .i64 x.1.h1, .int .i64 x.1.l2, .int .i64 x.1.h2, .int .i64 x.1.l3, .int .i64 x.1.h3]
      | 3 => xq 25 = .agg #[.int .i64 (x.1.l0 + x.1.t0), .int .i64 (x.1.l1 + x.1.t1), .int .i64 (x.1.l2 + x.1.t2), .int .i64 (x.1.l3 + x.1.t3)]
      | 4 => MapAt (w.heap.size + 1) (j + 1) ((shownD (boundsOf miss (fun _ => true) hs) gs j).put (keyAt j) (mixOf x.1)) w'
      | 5 => MapAt (w.heap.size + 1) j (shownD (boundsOf miss (fun _ => true) hs) gs j) w'
      | _ => True) [[22], [23], [24], [25], [], []] [(4, 5)] (fun w1 => W6.grownBy w1 (some (w.heap.size + 1))) (by kernel_rfl) ?_ ?_ (fun _ _ hb h => grow_up h hb) (grow_up (grow_refl _ _) HB3.out) ?_ ?_ ?_
     ·intro jq xq xq' wq h hv
      match jq, h, hv with
      | 0, h, hv => show xq' 22 = .map (some (w.heap.size + 1)); rw [← h 22 (by decide)]; exact hv
      | 1, h, hv => show xq' 23 = .int .i64 ((j : Int) - 1); rw [← h 23 (by decide)]; exact hv
      | 2, h, hv => show xq' 24 = .agg #[.int .i64 x.1.l0, .int .i64 x.1.h0, .int .i64 x.1.l1, .int .i64 x.1.h1, .int .i64 x.1.l2, .int .i64 x.1.h2, .int .i64 x.1.l3, .int .i64 x.1.h3]; rw [← h 24 (by decide)]; exact hv
      | 3, h, hv => show xq' 25 = .agg #[.int .i64 (x.1.l0 + x.1.t0), .int .i64 (x.1.l1 + x.1.t1), .int .i64 (x.1.l2 + x.1.t2), .int .i64 (x.1.l3 + x.1.t3)]; rw [← h 25 (by decide)]; exact hv
      | 4, h, hv => exact hv
      | 5, h, hv => exact hv
      | _ + 6, _, _ => trivial
     ·intro jq xq wq w' hb' hv
      match jq, hv with
      | 0, hv => exact hv
      | 1, hv => exact hv
      | 2, hv => exact hv
      | 3, hv => exact hv
      | 4, h0 => exact h0.up hb'
      | 5, h0 => exact h0.up hb'
      | _ + 6, _ => trivial
     ·intro jq hj
      match jq, hj with
      | 0, hj => exact absurd hj (by decide)
      | 1, hj => exact absurd hj (by decide)
      | 2, hj => exact absurd hj (by decide)
      | 3, hj => exact absurd hj (by decide)
      | 4, hj => exact absurd hj (by decide)
      | 5, _ => exact HMAP6.out.up HB3.out
      | _ + 6, _ => trivial
     ·refine ⟨?_, ?_, ?_, ?_, ?_, trivial⟩
      ·intro xq w1 hb1 hx K hK0
       have hK := fun v w' hb => hK0 v w' (.inl hb)
       clear hx hKc hK0
       have q0 : w1.cell? ⟨w.heap.size + 1 + 1, 0, none⟩ = some (.map (some (w.heap.size + 1))) := (HM6.out.grown hb1 (by omega)).cell 0
       have q1 : w1.cell? ⟨Bg, 0, none⟩ = some (.int .i64 ((j : Int) - 1)) := (HG6.out.grown hb1 (by omega)).cell 0
       have r0 : w1.cell? ⟨Bx, 0, none⟩ = some (.int .i64 x.1.l0) := (HX6.out.grown hb1 (by omega)).cell 0
       have r1 : w1.cell? ⟨Bx, 1, none⟩ = some (.int .i64 x.1.h0) := (HX6.out.grown hb1 (by omega)).cell 1
       have r2 : w1.cell? ⟨Bx, 2, none⟩ = some (.int .i64 x.1.l1) := (HX6.out.grown hb1 (by omega)).cell 2
       have r3 : w1.cell? ⟨Bx, 3, none⟩ = some (.int .i64 x.1.h1) := (HX6.out.grown hb1 (by omega)).cell 3
       have r4 : w1.cell? ⟨Bx, 4, none⟩ = some (.int .i64 x.1.l2) := (HX6.out.grown hb1 (by omega)).cell 4
       have r5 : w1.cell? ⟨Bx, 5, none⟩ = some (.int .i64 x.1.h2) := (HX6.out.grown hb1 (by omega)).cell 5
       have r6 : w1.cell? ⟨Bx, 6, none⟩ = some (.int .i64 x.1.l3) := (HX6.out.grown hb1 (by omega)).cell 6
       have r7 : w1.cell? ⟨Bx, 7, none⟩ = some (.int .i64 x.1.h3) := (HX6.out.grown hb1 (by omega)).cell 7
       simp only [frameOf, fill, setSlot, sg, Nat.reduceBEq, if_true, if_false, Nat.reduceAdd, Nat.reduceEqDiff, HSL.out] at hK ⊢
       gi_wp2_with (first | (refine ⟨trivial, ?_⟩; gi_at_call 108; refine (CallsIn.inRound l (callsIn_wide.2 (mixture_any x.1 x.2 _))).mono ?_; rintro e w3 ⟨rfl, hb3⟩) | (gi_at_mapUpdate; refine wpListIn_mapUpdate_own _ rfl _ _ _ 166 rfl 3 28 (Maps.int_keyed und_int) und_map mixElem (w.heap.size + 1) j (shownD (boundsOf miss (fun _ => true) hs) gs j) rfl fim_0 (by unfold maxLen; omega) _ _ (keyAt j) rfl rfl (key_at (by omega)) (mixOf x.1) [] rfl ?_; intro w5 hown5 hgrow5; have HG5 := Lib.hid hgrow5; have HO5 : Hid (MapAt (w.heap.size + 1) (j + 1) ((shownD (boundsOf miss (fun _ => true) hs) gs j).put (keyAt j) (mixOf x.1)) w5) := Lib.hid hown5; clear hgrow5 hown5))
       exact hK _ _ (Below.refl _ _) rfl
      ·intro xq w1 hb1 hx K hK0
       have hK := fun v w' hb => hK0 v w' (.inl hb)
       clear hx hKc hK0
       have q0 : w1.cell? ⟨w.heap.size + 1 + 1, 0, none⟩ = some (.map (some (w.heap.size + 1))) := (HM6.out.grown hb1 (by omega)).cell 0
       have q1 : w1.cell? ⟨Bg, 0, none⟩ = some (.int .i64 ((j : Int) - 1)) := (HG6.out.grown hb1 (by omega)).cell 0
       have r0 : w1.cell? ⟨Bx, 0, none⟩ = some (.int .i64 x.1.l0) := (HX6.out.grown hb1 (by omega)).cell 0
       have r1 : w1.cell? ⟨Bx, 1, none⟩ = some (.int .i64 x.1.h0) := (HX6.out.grown hb1 (by omega)).cell 1
       have r2 : w1.cell? ⟨Bx, 2, none⟩ = some (.int .i64 x.1.l1) := (HX6.out.grown hb1 (by omega)).cell 2
       have r3 : w1.cell? ⟨Bx, 3, none⟩ = some (.int .i64 x.1.h1) := (HX6.out.grown hb1 (by omega)).cell 3
       have r4 : w1.cell? ⟨Bx, 4, none⟩ = some (.int .i64 x.1.l2) := (HX6.out.grown hb1 (by omega)).cell 4
       have r5 : w1.cell? ⟨Bx, 5, none⟩ = some (.int .i64 x.1.h2) := (HX6.out.grown hb1 (by omega)).cell 5
       have r6 : w1.cell? ⟨Bx, 6, none⟩ = some (.int .i64 x.1.l3) := (HX6.out.grown hb1 (by omega)).cell 6
       have r7 : w1.cell? ⟨Bx, 7, none⟩ = some (.int .i64 x.1.h3) := (HX6.out.grown hb1 (by omega)).cell 7
       simp only [frameOf, fill, setSlot, sg, Nat.reduceBEq, if_true, if_false, Nat.reduceAdd, Nat.reduceEqDiff, HSL.out] at hK ⊢
       gi_wp2_with (first | (refine ⟨trivial, ?_⟩; gi_at_call 108; refine (CallsIn.inRound l (callsIn_wide.2 (mixture_any x.1 x.2 _))).mono ?_; rintro e w3 ⟨rfl, hb3⟩) | (gi_at_mapUpdate; refine wpListIn_mapUpdate_own _ rfl _ _ _ 166 rfl 3 28 (Maps.int_keyed und_int) und_map mixElem (w.heap.size + 1) j (shownD (boundsOf miss (fun _ => true) hs) gs j) rfl fim_0 (by unfold maxLen; omega) _ _ (keyAt j) rfl rfl (key_at (by omega)) (mixOf x.1) [] rfl ?_; intro w5 hown5 hgrow5; have HG5 := Lib.hid hgrow5; have HO5 : Hid (MapAt (w.heap.size + 1) (j + 1) ((shownD (boundsOf miss (fun _ => true) hs) gs j).put (keyAt j) (mixOf x.1)) w5) := Lib.hid hown5; clear hgrow5 hown5))
       exact hK _ _ (Below.refl _ _) rfl
      ·intro xq w1 hb1 hx K hK0
       have hK := fun v w' hb => hK0 v w' (.inl hb)
       clear hx hKc hK0
       have q0 : w1.cell? ⟨w.heap.size + 1 + 1, 0, none⟩ = some (.map (some (w.heap.size + 1))) := (HM6.out.grown hb1 (by omega)).cell 0
       have q1 : w1.cell? ⟨Bg, 0, none⟩ = some (.int .i64 ((j : Int) - 1)) := (HG6.out.grown hb1 (by omega)).cell 0
       have r0 : w1.cell? ⟨Bx, 0, none⟩ = some (.int .i64 x.1.l0) := (HX6.out.grown hb1 (by omega)).cell 0
       have r1 : w1.cell? ⟨Bx, 1, none⟩ = some (.int .i64 x.1.h0) := (HX6.out.grown hb1 (by omega)).cell 1
       have r2 : w1.cell? ⟨Bx, 2, none⟩ = some (.int .i64 x.1.l1) := (HX6.out.grown hb1 (by omega)).cell 2
       have r3 : w1.cell? ⟨Bx, 3, none⟩ = some (.int .i64 x.1.h1) := (HX6.out.grown hb1 (by omega)).cell 3
       have r4 : w1.cell? ⟨Bx, 4, none⟩ = some (.int .i64 x.1.l2) := (HX6.out.grown hb1 (by omega)).cell 4
       have r5 : w1.cell? ⟨Bx, 5, none⟩ = some (.int .i64 x.1.h2) := (HX6.out.grown hb1 (by omega)).cell 5
       have r6 : w1.cell? ⟨Bx, 6, none⟩ = some (.int .i64 x.1.l3) := (HX6.out.grown hb1 (by omega)).cell 6
       have r7 : w1.cell? ⟨Bx, 7, none⟩ = some (.int .i64 x.1.h3) := (HX6.out.grown hb1 (by omega)).cell 7
       simp only [frameOf, fill, setSlot, sg, Nat.reduceBEq, if_true, if_false, Nat.reduceAdd, Nat.reduceEqDiff, HSL.out] at hK ⊢
       gi_wp2_with (first | (refine ⟨trivial, ?_⟩; gi_at_call 108; refine (CallsIn.inRound l (callsIn_wide.2 (mixture_any x.1 x.2 _))).mono ?_; rintro e w3 ⟨rfl, hb3⟩) | (gi_at_mapUpdate; refine wpListIn_mapUpdate_own _ rfl _ _ _ 166 rfl 3 28 (Maps.int_keyed und_int) und_map mixElem (w.heap.size + 1) j (shownD (boundsOf miss (fun _ => true) hs) gs j) rfl fim_0 (by unfold maxLen; omega) _ _ (keyAt j) rfl rfl (key_at (by omega)) (mixOf x.1) [] rfl ?_; intro w5 hown5 hgrow5; have HG5 := Lib.hid hgrow5; have HO5 : Hid (MapAt (w.heap.size + 1) (j + 1) ((shownD (boundsOf miss (fun _ => true) hs) gs j).put (keyAt j) (mixOf x.1)) w5) := Lib.hid hown5; clear hgrow5 hown5))
       exact hK _ _ (Below.refl _ _) rfl
      ·intro xq w1 hb1 hx K hK0
       have hK := fun v w' hb => hK0 v w' (.inl hb)
       have e24 : xq 24 = .agg #[.int .i64 x.1.l0, .int .i64 x.1.h0, .int .i64 x.1.l1, .int .i64 x.1.h1, .int .i64 x.1.l2, .int .i64 x.1.h2, .int .i64 x.1.l3, .int .i64 x.1.h3] := hx 2 (by rfl) (by rfl)
       clear hx hKc hK0
       have q0 : w1.cell? ⟨w.heap.size + 1 + 1, 0, none⟩ = some (.map (some (w.heap.size + 1))) := (HM6.out.grown hb1 (by omega)).cell 0
       have q1 : w1.cell? ⟨Bg, 0, none⟩ = some (.int .i64 ((j : Int) - 1)) := (HG6.out.grown hb1 (by omega)).cell 0
       have r0 : w1.cell? ⟨Bx, 0, none⟩ = some (.int .i64 x.1.l0) := (HX6.out.grown hb1 (by omega)).cell 0
       have r1 : w1.cell? ⟨Bx, 1, none⟩ = some (.int .i64 x.1.h0) := (HX6.out.grown hb1 (by omega)).cell 1
       have r2 : w1.cell? ⟨Bx, 2, none⟩ = some (.int .i64 x.1.l1) := (HX6.out.grown hb1 (by omega)).cell 2
       have r3 : w1.cell? ⟨Bx, 3, none⟩ = some (.int .i64 x.1.h1) := (HX6.out.grown hb1 (by omega)).cell 3
       have r4 : w1.cell? ⟨Bx, 4, none⟩ = some (.int .i64 x.1.l2) := (HX6.out.grown hb1 (by omega)).cell 4
       have r5 : w1.cell? ⟨Bx, 5, none⟩ = some (.int .i64 x.1.h2) := (HX6.out.grown hb1 (by omega)).cell 5
       have r6 : w1.cell? ⟨Bx, 6, none⟩ = some (.int .i64 x.1.l3) := (HX6.out.grown hb1 (by omega)).cell 6
       have r7 : w1.cell? ⟨Bx, 7, none⟩ = some (.int .i64 x.1.h3) := (HX6.out.grown hb1 (by omega)).cell 7
       simp only [frameOf, fill, setSlot, sg, Nat.reduceBEq, if_true, if_false, Nat.reduceAdd, Nat.reduceEqDiff, HSL.out] at hK ⊢
       simp only [e24] at hK ⊢
       clear e24
       gi_wp2_with (first | (refine ⟨trivial, ?_⟩; gi_at_call 108; refine (CallsIn.inRound l (callsIn_wide.2 (mixture_any x.1 x.2 _))).mono ?_; rintro e w3 ⟨rfl, hb3⟩) | (gi_at_mapUpdate; refine wpListIn_mapUpdate_own _ rfl _ _ _ 166 rfl 3 28 (Maps.int_keyed und_int) und_map mixElem (w.heap.size + 1) j (shownD (boundsOf miss (fun _ => true) hs) gs j) rfl fim_0 (by unfold maxLen; omega) _ _ (keyAt j) rfl rfl (key_at (by omega)) (mixOf x.1) [] rfl ?_; intro w5 hown5 hgrow5; have HG5 := Lib.hid hgrow5; have HO5 : Hid (MapAt (w.heap.size + 1) (j + 1) ((shownD (boundsOf miss (fun _ => true) hs) gs j).put (keyAt j) (mixOf x.1)) w5) := Lib.hid hown5; clear hgrow5 hown5))
       exact hK _ _ hb3 rfl
      ·intro xq w1 hb1 hx K hK0
       have hK := fun v w' hb => hK0 v w' (.inr hb)
       have e22 : xq 22 = .map (some (w.heap.size + 1)) := hx 0 (by rfl) (by rfl)
       have e23 : xq 23 = .int .i64 ((j : Int) - 1) := hx 1 (by rfl) (by rfl)
       have e25 : xq 25 = .agg #[.int .i64 (x.1.l0 + x.1.t0), .int .i64 (x.1.l1 + x.1.t1), .int .i64 (x.1.l2 + x.1.t2), .int .i64 (x.1.l3 + x.1.t3)] := hx 3 (by rfl) (by rfl)
       have fim_0 : MapAt (w.heap.size + 1) j (shownD (boundsOf miss (fun _ => true) hs) gs j) w1 := hx 5 (by rfl) (by rfl)
       clear hx hKc hK0
       have q0 : w1.cell? ⟨w.heap.size + 1 + 1, 0, none⟩ = some (.map (some (w.heap.size + 1))) := (HM6.out.grown hb1 (by omega)).cell 0
       have q1 : w1.cell? ⟨Bg, 0, none⟩ = some (.int .i64 ((j : Int) - 1)) := (HG6.out.grown hb1 (by omega)).cell 0
       have r0 : w1.cell? ⟨Bx, 0, none⟩ = some (.int .i64 x.1.l0) := (HX6.out.grown hb1 (by omega)).cell 0
       have r1 : w1.cell? ⟨Bx, 1, none⟩ = some (.int .i64 x.1.h0) := (HX6.out.grown hb1 (by omega)).cell 1
       have r2 : w1.cell? ⟨Bx, 2, none⟩ = some (.int .i64 x.1.l1) := (HX6.out.grown hb1 (by omega)).cell 2
       have r3 : w1.cell? ⟨Bx, 3, none⟩ = some (.int .i64 x.1.h1) := (HX6.out.grown hb1 (by omega)).cell 3
       have r4 : w1.cell? ⟨Bx, 4, none⟩ = some (.int .i64 x.1.l2) := (HX6.out.grown hb1 (by omega)).cell 4
       have r5 : w1.cell? ⟨Bx, 5, none⟩ = some (.int .i64 x.1.h2) := (HX6.out.grown hb1 (by omega)).cell 5
       have r6 : w1.cell? ⟨Bx, 6, none⟩ = some (.int .i64 x.1.l3) := (HX6.out.grown hb1 (by omega)).cell 6
       have r7 : w1.cell? ⟨Bx, 7, none⟩ = some (.int .i64 x.1.h3) := (HX6.out.grown hb1 (by omega)).cell 7
       simp only [frameOf, fill, setSlot, sg, Nat.reduceBEq, if_true, if_false, Nat.reduceAdd, Nat.reduceEqDiff, HSL.out] at hK ⊢
       have E22 := Lib.hid e22
       have E23 := Lib.hid e23
       have E25 := Lib.hid e25
       simp only [e22, e23, e25] at hK ⊢
       clear e22 e23 e25
       gi_wp2_with (first | (refine ⟨trivial, ?_⟩; gi_at_call 108; refine (CallsIn.inRound l (callsIn_wide.2 (mixture_any x.1 x.2 _))).mono ?_; rintro e w3 ⟨rfl, hb3⟩) | (gi_at_mapUpdate; refine wpListIn_mapUpdate_own _ rfl _ _ _ 166 rfl 3 28 (Maps.int_keyed und_int) und_map mixElem (w.heap.size + 1) j (shownD (boundsOf miss (fun _ => true) hs) gs j) rfl fim_0 (by unfold maxLen; omega) _ _ (keyAt j) rfl rfl (key_at (by omega)) (mixOf x.1) [] rfl ?_; intro w5 hown5 hgrow5; have HG5 := Lib.hid hgrow5; have HO5 : Hid (MapAt (w.heap.size + 1) (j + 1) ((shownD (boundsOf miss (fun _ => true) hs) gs j).put (keyAt j) (mixOf x.1)) w5) := Lib.hid hown5; clear hgrow5 hown5))
       refine hK undef _ ⟨grow_trans hb1 HG5.out, ?_⟩ HO5.out
       intro jq xq hd hne hv
       match jq, hd, hne, hv with
       | 0, _, _, hv => exact hv
       | 1, _, _, hv => exact hv
       | 2, _, _, hv => exact hv
       | 3, _, _, hv => exact hv
       | 4, _, hne, _ => exact absurd rfl hne
       | 5, hd, _, _ => exact absurd hd (by decide)
       | _ + 6, _, _, _ => trivial
     ·intro xq w1 hb1 hx
      have e22 : xq 22 = .map (some (w.heap.size + 1)) := hx 0 (by decide)
      have e23 : xq 23 = .int .i64 ((j : Int) - 1) := hx 1 (by decide)
      have e24 : xq 24 = .agg #[.int .i64 x.1.l0, .int .i64 x.1.h0, .int .i64 x.1.l1, .int .i64 x.1.h1, .int .i64 x.1.l2, .int .i64 x.1.h2, .int .i64 x.1.l3, .int .i64 x.1.h3] := hx 2 (by decide)
      have e25 : xq 25 = .agg #[.int .i64 (x.1.l0 + x.1.t0), .int .i64 (x.1.l1 + x.1.t1), .int .i64 (x.1.l2 + x.1.t2), .int .i64 (x.1.l3 + x.1.t3)] := hx 3 (by decide)
      have fn4_0 : MapAt (w.heap.size + 1) (j + 1) ((shownD (boundsOf miss (fun _ => true) hs) gs j).put (keyAt j) (mixOf x.1)) w1 := hx 4 (by decide)
      clear hx
      have q0 : w1.cell? ⟨w.heap.size + 1 + 1, 0, none⟩ = some (.map (some (w.heap.size + 1))) := (HM6.out.grown hb1 (by omega)).cell 0
      have q1 : w1.cell? ⟨Bg, 0, none⟩ = some (.int .i64 ((j : Int) - 1)) := (HG6.out.grown hb1 (by omega)).cell 0
      have r0 : w1.cell? ⟨Bx, 0, none⟩ = some (.int .i64 x.1.l0) := (HX6.out.grown hb1 (by omega)).cell 0
      have r1 : w1.cell? ⟨Bx, 1, none⟩ = some (.int .i64 x.1.h0) := (HX6.out.grown hb1 (by omega)).cell 1
      have r2 : w1.cell? ⟨Bx, 2, none⟩ = some (.int .i64 x.1.l1) := (HX6.out.grown hb1 (by omega)).cell 2
      have r3 : w1.cell? ⟨Bx, 3, none⟩ = some (.int .i64 x.1.h1) := (HX6.out.grown hb1 (by omega)).cell 3
      have r4 : w1.cell? ⟨Bx, 4, none⟩ = some (.int .i64 x.1.l2) := (HX6.out.grown hb1 (by omega)).cell 4
      have r5 : w1.cell? ⟨Bx, 5, none⟩ = some (.int .i64 x.1.h2) := (HX6.out.grown hb1 (by omega)).cell 5
      have r6 : w1.cell? ⟨Bx, 6, none⟩ = some (.int .i64 x.1.l3) := (HX6.out.grown hb1 (by omega)).cell 6
      have r7 : w1.cell? ⟨Bx, 7, none⟩ = some (.int .i64 x.1.h3) := (HX6.out.grown hb1 (by omega)).cell 7
      simp only [frameOf, fill, setSlot, sg, Nat.reduceBEq, if_true, if_false, Nat.reduceAdd, Nat.reduceEqDiff, HSL.out]
      simp only [e22, e23, e24, e25]
      clear e22 e23 e24 e25
      refine hKc _ _ ?_
      gi_wp2_with fail
      exact ⟨KeepsFrom.of_grownBy hb1 (fun k e => by cases e; omega), rfl, pre, x, rfl, hemp, HQ.out, grow_below hb6 hb1, fn4_0⟩
   case done =>
    rintro D xs W hD rfl ⟨hemp, hb⟩ hK
    have kg' : W.cell? ⟨Bg, 0, none⟩ = some (.int .i64 ((j : Int) - 1)) := (HG2.out.up hb).cell 0
    go_wp2_with fail
    have HG9 : W2.grownBy W (some (w.heap.size + 1)) := grow_up (grow_refl _ _) hb
    have hmapn : MapAt (w.heap.size + 1) (j + 1) ((shownD (boundsOf miss (fun _ => true) hs) gs (j + 1))) W := by rw [shownD_no (shown_none hemp)]; exact (HMAP2.out.up hb).mono (by omega)
    have HCn := HC2.out.grown HG9 (by omega)
    have HMn := HM2.out.grown HG9 (by omega)
    have hWs := (HG9).size
    have hal : Below W.heap.size W (W.alloc (.cells #[.int .i64 (j : Int)] 3)) := (Below.refl _ _).alloc (Nat.le_refl _) _
    refine ⟨⟨j + 1, W.heap.size, D :: ms, u5, _, _, _, _, _, _, _, _, _, _, _, _, _, _, _, _, _, _, _, _, _, rfl, by omega, List.nodup_cons.2 ⟨fun hm => by have := (Array.getElem?_eq_some_iff.1 (HMS2.out _ hm).2).1; omega, HND.out⟩, ?_, ?_, HCn.up hal, HMn.up hal, ?_, by omega, hmapn.up hal⟩, ?_⟩
    ·intro E hE
     rcases List.mem_cons.1 hE with rfl | hE
     ·exact ⟨by omega, (hal.block _ (Array.getElem?_eq_some_iff.1 hK).1).trans hK⟩
     ·obtain ⟨h1, h2⟩ := HMS2.out E hE
      have h3 := block_grown HG9 h2 (by omega)
      exact ⟨h1, (hal.block _ (Array.getElem?_eq_some_iff.1 h3).1).trans h3⟩
    ·exact (⟨HG9.os.trans hBw2.os, HG9.tape.trans hBw2.tape, HG9.output.trans hBw2.output, Nat.le_trans hBw2.size HG9.size, fun k hk => (HG9.block k (Nat.lt_of_lt_of_le hk hBw2.size) (fun e => by cases e; omega)).trans (hBw2.block k hk)⟩ : Below w.heap.size w W).trans (hal.mono (by have := hBw2.size; omega))
    ·rw [show (((j + 1 : Nat) : Int) - 1) = (j : Int) from by omega]; exact Holds.new _ _ _
    ·exact mu_lt ((Holds.new W 3 #[.int .i64 (j : Int)]).cell 0) (Hg.cell 0) rfl rfl (by omega) (by omega)
   case stop =>
    rintro D c pre W hD hpre ⟨rfl, p, x, rfl, hp, hx, hg, hm⟩ hK
    refine wpIn_wide.2 ?_
    have kg' : W.cell? ⟨Bg, 0, none⟩ = some (.int .i64 ((j : Int) - 1)) := (HG2.out.grown hg (by omega)).cell 0
    go_wp2_with fail
    have HG9 : W2.grownBy W (some (w.heap.size + 1)) := hg
    have hmapn : MapAt (w.heap.size + 1) (j + 1) ((shownD (boundsOf miss (fun _ => true) hs) gs (j + 1))) W := by rw [shownD_yes (shown_some hpre hp hx)]; exact hm
    have HCn := HC2.out.grown HG9 (by omega)
    have HMn := HM2.out.grown HG9 (by omega)
    have hWs := (HG9).size
    have hal : Below W.heap.size W (W.alloc (.cells #[.int .i64 (j : Int)] 3)) := (Below.refl _ _).alloc (Nat.le_refl _) _
    refine ⟨⟨j + 1, W.heap.size, D :: ms, u5, _, _, _, _, _, _, _, _, _, _, _, _, _, _, _, _, _, _, _, _, _, rfl, by omega, List.nodup_cons.2 ⟨fun hm => by have := (Array.getElem?_eq_some_iff.1 (HMS2.out _ hm).2).1; omega, HND.out⟩, ?_, ?_, HCn.up hal, HMn.up hal, ?_, by omega, hmapn.up hal⟩, ?_⟩
    ·intro E hE
     rcases List.mem_cons.1 hE with rfl | hE
     ·exact ⟨by omega, (hal.block _ (Array.getElem?_eq_some_iff.1 hK).1).trans hK⟩
     ·obtain ⟨h1, h2⟩ := HMS2.out E hE
      have h3 := block_grown HG9 h2 (by omega)
      exact ⟨h1, (hal.block _ (Array.getElem?_eq_some_iff.1 h3).1).trans h3⟩
    ·exact (⟨HG9.os.trans hBw2.os, HG9.tape.trans hBw2.tape, HG9.output.trans hBw2.output, Nat.le_trans hBw2.size HG9.size, fun k hk => (HG9.block k (Nat.lt_of_lt_of_le hk hBw2.size) (fun e => by cases e; omega)).trans (hBw2.block k hk)⟩ : Below w.heap.size w W).trans (hal.mono (by have := hBw2.size; omega))
    ·rw [show (((j + 1 : Nat) : Int) - 1) = (j : Int) from by omega]; exact Holds.new _ _ _
    ·exact mu_lt ((Holds.new W 3 #[.int .i64 (j : Int)]).cell 0) (Hg.cell 0) rfl rfl (by omega) (by omega)
  ·have hjt : ¬ ((j : Int) - 1 < (gs.length : Int)) := by omega
   go_wp2_with fail
   have hje : j = gs.length + 1 := by omega
   refine leaves_marks ms wr HND.out (fun D hD => (HMS.out D hD).2) (fun w' hsh => ⟨results_tmp rfl _ _ _, _, rfl, ?_, ?_⟩)
   ·have h1 := HMAP.out
    rw [hje] at h1
    exact (h1.shut hsh (fun hm => by have := (HMS.out _ hm).1; omega)).mono (by omega)
   ·exact HB.out.trans (hsh.below (fun D hD => by have := (HMS.out D hD).1; omega))
end Go.Proofs.Ytifffonoipapgaa
