import Derived.Deep.SlicePairs
import Derived.Lib.SmallJoins
import Derived.OpenShut
import Derived.Test.YtokafjkinkafiaaVAA
import Derived.Test.YtokafjkinkafiaaVAD
import Derived.Test.YtokafjkinkafiaaVAM
set_option linter.unusedSimpArgs false
set_option linter.unusedVariables false
namespace Go.Proofs.Ytokafjkinkafiaa
open Go.RowKit
theorem own_cells {w : World} {B n c : Nat} {A : Option Addr} {xs : List Int} (h : OwnInts w B (.slice A n c) xs) : ∀ g o, A = some ⟨g, o, none⟩ → ∃ cs fr, w.heap[g]? = some (Obj.cells cs 3 fr) := by
 intro g o e
 obtain ⟨_, ⟨hv, _⟩ | ⟨g', cap, cur, hv, _, hg, _⟩⟩ := h
 ·cases hv; cases e
 ·cases hv; cases e; exact ⟨_, _, hg⟩
def PlanT (w : World) (P : Option Addr) (p : List (List Int)) : Prop :=
 0 < p.length → ∃ B o, P = some ⟨B, o, none⟩ ∧ (∃ cs fr, w.heap[B]? = some (Obj.cells cs 55 fr)) ∧ ∀ d l, p[d]? = some l → ∃ A c, w.cell? ⟨B, o + d, none⟩ = some (.slice A l.length c) ∧ IntsAt w A l ∧ (A = none → l.length = 0 ∧ c = 0) ∧ (∀ B' o', A = some ⟨B', o', none⟩ → 0 < l.length → ∃ cs fr, w.heap[B']? = some (Obj.cells cs 3 fr))
theorem PlanT.at_ {w : World} {P : Option Addr} {p : List (List Int)} (h : PlanT w P p) : PlanAt w P p := fun hn => by
 obtain ⟨B, o, e, -, hc⟩ := h hn
 exact ⟨B, o, e, fun d l hl => by obtain ⟨A, c, h1, h2, h3, -⟩ := hc d l hl; exact ⟨A, c, h1, h2, h3⟩⟩
theorem PlanT.up {w w' : World} {P : Option Addr} {p : List (List Int)} (h : PlanT w P p) (hb : Below w.heap.size w w') : PlanT w' P p := fun hn => by
 obtain ⟨B, o, e, ⟨cs, fr, ht⟩, hc⟩ := h hn
 refine ⟨B, o, e, ⟨cs, fr, (hb.block B (Array.getElem?_eq_some_iff.1 ht).1).trans ht⟩, fun d l hl => ?_⟩
 obtain ⟨A, c, h1, h2, h3, h4⟩ := hc d l hl
 exact ⟨A, c, up_cell hb h1, h2.up hb, h3, fun B' o' e' h0 => by obtain ⟨cs', fr', q⟩ := h4 B' o' e' h0; exact ⟨cs', fr', (hb.block B' (Array.getElem?_eq_some_iff.1 q).1).trans q⟩⟩
theorem PlanT.far {w : World} {P : Option Addr} {p : List (List Int)} {z i : Nat} {t : TypeId} {ds : Array Value} (h : PlanT w P p) (hz : Holds w z t ds) (h1 : t ≠ 55) (h2 : t ≠ 3) (u : Value) : PlanT (w.setCell ⟨z, i, none⟩ u) P p := fun hn => by
 have off : ∀ (B : Nat) (cs : Array Value) (s : TypeId) (fr : Nat × Nat), w.heap[B]? = some (Obj.cells cs s fr) → t ≠ s → B ≠ z := fun B cs s fr hB hts e => by
  subst e
  rw [show w.heap[B]? = _ from hz] at hB
  cases hB
  exact hts rfl
 obtain ⟨B, o, e, ⟨cs, fr, ht⟩, hc⟩ := h hn
 have hB := off B cs _ fr ht h1
 refine ⟨B, o, e, ⟨cs, fr, (Below.heap_setCell w _ u B hB).trans ht⟩, fun d l hl => ?_⟩
 obtain ⟨A, c, k1, k2, k3, k4⟩ := hc d l hl
 refine ⟨A, c, (World.cell?_setCell_other w _ _ _ (fun e' => hB (by have := congrArg Addr.block e'; simp at this; omega))).trans k1, fun h0 => ?_, k3, fun B' o' e' h0 => ?_⟩
 ·obtain ⟨B', o', eA, hat⟩ := k2 h0
  obtain ⟨cs', fr', q⟩ := k4 B' o' eA h0
  have hB' := off B' cs' _ fr' q h2
  exact ⟨B', o', eA, fun j y hj => (World.cell?_setCell_other w _ _ _ (fun e' => hB' (by have := congrArg Addr.block e'; simp at this; omega))).trans (hat j y hj)⟩
 ·obtain ⟨cs', fr', q⟩ := k4 B' o' e' h0
  exact ⟨cs', fr', (Below.heap_setCell w _ u B' (off B' cs' _ fr' q h2)).trans q⟩
theorem PlanT.set9 {w : World} {P : Option Addr} {p : List (List Int)} {z : Nat} {t : TypeId} {ds : Array Value} {u0 u1 u2 u3 u4 u5 u6 u7 u8 : Value} (h : PlanT w P p) (hz : Holds w z t ds) (h1 : t ≠ 55) (h2 : t ≠ 3) :
  PlanT (((((((((w.setCell ⟨z, 0, none⟩ u0).setCell ⟨z, 1, none⟩ u1).setCell ⟨z, 2, none⟩ u2).setCell ⟨z, 3, none⟩ u3).setCell ⟨z, 4, none⟩ u4).setCell ⟨z, 5, none⟩ u5).setCell ⟨z, 6, none⟩ u6).setCell ⟨z, 7, none⟩ u7).setCell ⟨z, 8, none⟩ u8) P p := by
 have s1 := h.far (i := 0) hz h1 h2 u0
 have z1 := hz.set_ 0 u0
 have s2 := s1.far (i := 1) z1 h1 h2 u1
 have z2 := z1.set_ 1 u1
 have s3 := s2.far (i := 2) z2 h1 h2 u2
 have z3 := z2.set_ 2 u2
 have s4 := s3.far (i := 3) z3 h1 h2 u3
 have z4 := z3.set_ 3 u3
 have s5 := s4.far (i := 4) z4 h1 h2 u4
 have z5 := z4.set_ 4 u4
 have s6 := s5.far (i := 5) z5 h1 h2 u5
 have z6 := z5.set_ 5 u5
 have s7 := s6.far (i := 6) z6 h1 h2 u6
 have z7 := z6.set_ 6 u6
 have s8 := s7.far (i := 7) z7 h1 h2 u7
 have z8 := z7.set_ 7 u7
 exact s8.far (i := 8) z8 h1 h2 u8
set_option maxRecDepth 100000 in
set_option maxHeartbeats 40000000 in
theorem DupRowsT_any (P : Option Addr) (q : Nat) (p : List (List Int)) (w : World) (hP : PlanAt w P p) (hpl : p.length ≤ 1000) (hll : ∀ l ∈ p, l.length ≤ 1000) :
  Calls Try.prog 23 #[.slice P p.length q] w fun e w' => ∃ A', e = .returned (.slice A' p.length p.length) ∧ PlanT w' A' p ∧ Below w.heap.size w w' := by
 have HP := Lib.hid hP
 have HLL := Lib.hid hll
 obtain ⟨w1, cur0, hrun1, hO1, hsz1, hb1⟩ := make_rows w p.length hpl
 have HO1 := Lib.hid hO1
 have HB1 := Lib.hid hb1
 clear hP hll hO1 hb1
 go_enter Try.func23, Try.ntmps23
 go_wp2_with fail
 go_loopw [11] (fun v11 wr => ∃ (k : Nat) (cur : List Value), v11 = .int .i64 (k : Int) ∧ k ≤ p.length ∧ cur.length = p.length ∧ Holds wr w.heap.size 55 cur.toArray ∧ (∀ e l, e < k → p[e]? = some l → ∃ A c, cur[e]? = some (.slice A l.length c) ∧ IntsAt wr A l ∧ (A = none → l.length = 0 ∧ c = 0) ∧ (∀ B o, A = some ⟨B, o, none⟩ → 0 < l.length → w.heap.size < B ∧ ∃ cs fr, wr.heap[B]? = some (Obj.cells cs 3 fr))) ∧ Below w.heap.size w wr) (fun v11 _ => p.length - (intOf v11).toNat)
 case atStart => exact ⟨0, cur0.toList, rfl, Nat.zero_le _, by simpa using hsz1, by simpa using HO1.out, (fun e l h => absurd h (Nat.not_lt_zero _)), HB1.out⟩
 case round =>
  obtain ⟨k, cur, rfl, hk, hcl, hH, hrows, hB⟩ := hrel
  have HB := Lib.hid hB
  have HH := Lib.hid hH
  have HR := Lib.hid hrows
  have HCL := Lib.hid hcl
  clear hB hH hrows hcl
  by_cases hlt : k < p.length
  ·have hlt' : (k : Int) < p.length := by omega
   obtain ⟨l, hl2⟩ : ∃ z, p[k]? = some z := ⟨_, List.getElem?_eq_getElem hlt⟩
   obtain ⟨B0, oo, rfl, hrow⟩ := (HP.out.up HB.out) (by omega)
   obtain ⟨LA, lc, kl, hI, hN⟩ := hrow k l hl2
   have lP := World.block_lt_of_cell? wr _ kl
   have hlen : l.length ≤ 1000 := HLL.out l (List.mem_of_getElem? hl2)
   have HL2 := Lib.hid hl2
   have HI := Lib.hid hI
   have HN := Lib.hid hN
   obtain ⟨old, hold⟩ : ∃ z, cur[k]? = some z := ⟨_, List.getElem?_eq_getElem (by rw [HCL.out]; exact hlt)⟩
   have HOLD := Lib.hid hold
   clear hrow hI hN hl2 hold
   go_wp2_with (go_at_call 67; refine (DupInts_any LA lc l _ (HI.out.up zg) hlen HN.out).mono ?_; rintro e w2 ⟨v2, rfl, hown, hb2⟩; obtain ⟨A2, c2, rfl, hc2, hn2, hI2⟩ := hown.at_; have HG2 : Hid (∀ B o, A2 = some ⟨B, o, none⟩ → 0 < l.length → w.heap.size < B ∧ ∃ cs fr, w2.heap[B]? = some (Obj.cells cs 3 fr)) := Lib.hid (fun B o e h => ⟨Nat.lt_of_lt_of_le HH.out.lt (own_above hown B o e h), own_cells hown B o e⟩); have HI2 := Lib.hid hI2; have HN2 := Lib.hid hn2; have HS2 := Lib.hid hb2; have HH2 := Lib.hid (HH.out.up hb2); have HB2 := Lib.hid (HB.out.trans (hb2.mono HB.out.size)); have lt2 := HH2.out.lt; have ks : w2.cell? ⟨w.heap.size, k, none⟩ = some old := (HH2.out.cell k).trans (by simpa using HOLD.out); have zs : w2.frozen? ⟨w.heap.size, k, none⟩ = false := HH2.out.frozen k; have hs2 := hb2.size; clear hown hI2 hn2 hb2)
   go_roundw
   case rel =>
    refine ⟨k + 1, cur.set k (.slice A2 l.length c2), by go_num, hlt, by rw [List.length_set]; exact HCL.out, HH2.out.setL k _, fun e l' he hl' => ?_, HB2.out.trans zg⟩
    have keep : ∀ (A : Option Addr) (ys : List Int), IntsAt w2 A ys → (∀ B o, A = some ⟨B, o, none⟩ → 0 < ys.length → w.heap.size < B) → IntsAt (w2.setCell ⟨w.heap.size, k, none⟩ (.slice A2 l.length c2)) A ys := fun A ys h hne hn0 => by
     obtain ⟨B, o, rfl, hc⟩ := h hn0
     have hlt := hne B o rfl hn0
     exact ⟨B, o, rfl, fun j y hj => (World.cell?_setCell_other w2 _ _ _ (fun e => by have := congrArg Addr.block e; simp at this; omega)).trans (hc j y hj)⟩
    have turned : ∀ B, (w.heap.size < B ∧ ∃ cs fr, w2.heap[B]? = some (Obj.cells cs 3 fr)) → w.heap.size < B ∧ ∃ cs fr, (w2.setCell ⟨w.heap.size, k, none⟩ (.slice A2 l.length c2)).heap[B]? = some (Obj.cells cs 3 fr) := fun B h => by
     obtain ⟨q1, cs, fr, q2⟩ := h
     exact ⟨q1, cs, fr, (Below.heap_setCell _ _ _ _ (by simp only; omega)).trans q2⟩
    by_cases hek : e = k
    ·subst hek
     have e2 : l' = l := by have := HL2.out; rw [hl'] at this; exact Option.some.inj this
     subst e2
     exact ⟨A2, c2, List.getElem?_set_self (by rw [HCL.out]; exact hlt), keep A2 l' HI2.out (fun B o e h => (HG2.out B o e h).1), HN2.out, fun B o e h => turned B (HG2.out B o e h)⟩
    ·obtain ⟨A, c, h1, h2, h3, h4⟩ := HR.out e l' (by omega) hl'
     exact ⟨A, c, by rw [List.getElem?_set_ne (fun e => hek e.symm)]; exact h1, keep A l' (h2.up HS2.out) (fun B o e h => (h4 B o e h).1), h3, fun B o e h => turned B (by obtain ⟨q1, cs, fr, q2⟩ := h4 B o e h; exact ⟨q1, cs, fr, (HS2.out.block B (Array.getElem?_eq_some_iff.1 q2).1).trans q2⟩)⟩
   case measure => first | (simp [intOf]; done) | (simp [intOf]; omega)
  ·have hkl : k = p.length := by omega
   have hlt' : ¬ (k : Int) < p.length := by omega
   have HKL := Lib.hid hkl
   clear hkl
   go_wp2_with fail
   go_ret
   refine ⟨_, rfl, fun hn => ⟨w.heap.size, 0, rfl, ⟨_, _, HH.out⟩, fun d l hl => ?_⟩, HB.out⟩
   obtain ⟨A, c, h1, h2, h3, h4⟩ := HR.out d l (by rw [HKL.out]; exact (List.getElem?_eq_some_iff.1 hl).1) hl
   exact ⟨A, c, by rw [Nat.zero_add]; exact (HH.out.cell d).trans (by simpa using h1), h2, h3, fun B o e h => (h4 B o e h).2⟩
def warmPairs (b : Br) (p : List (List Int)) (k : Nat) (x : Bn) : List (Int × Int) := List.zip (warmList b.cool (b.rise x.lo) (k : Int) x.warm p) (warmList b.cool (b.rise x.hi) (k : Int) x.warm p)
theorem pairs_len (b : Br) (p : List (List Int)) (k : Nat) (x : Bn) : (warmPairs b p k x).length = p.length := by
 unfold warmPairs
 rw [List.length_zip, warm_len, warm_len, Nat.min_self]
theorem walls_pick {b : Br} {bs : List Bn} {p : List (List Int)} {k : Nat} {x : Bn} (h4 : bs.length ≤ 4) (hx : bs[k]? = some x) : (wallsFrom b bs 0 (firstOf bs bs.length) p).map (pick k) = warmPairs b p k x := by
 apply List.ext_getElem?
 intro i
 rw [List.getElem?_map]
 cases hy : (wallsFrom b bs 0 (firstOf bs bs.length) p)[i]? with
 | none =>
  have := List.getElem?_eq_none_iff.1 hy
  rw [walls_len] at this
  rw [List.getElem?_eq_none (by rw [pairs_len]; exact this)]
  rfl
 | some y =>
  have hw := (walls_at (P := p) p 0 (firstOf bs bs.length) rfl (wall_first h4) i y hy).2
  obtain ⟨s, hs, h1, h2⟩ := hw.2 k x hx
  rw [Nat.zero_add, List.getElem?_cons_succ] at h1 h2
  unfold warmPairs pick
  rw [List.getElem?_zip_eq_some.2 ⟨h1, h2⟩]
  simp [hs]
theorem lw_at {b : Br} {bs : List Bn} {p : List (List Int)} {k : Nat} {x : Bn} (h4 : bs.length ≤ 4) (hx : bs[k]? = some x) : ∃ s, (lastW (firstOf bs bs.length) (wallsFrom b bs 0 (firstOf bs bs.length) p))[k]? = some s ∧ (p.length = 0 → s.2 = x.warm) ∧ (0 < p.length → (warmList b.cool (b.rise x.hi) (k : Int) x.warm p)[p.length - 1]? = some s.2) := by
 have hlen := walls_len b bs p 0 (firstOf bs bs.length)
 by_cases h0 : p.length = 0
 ·have hp : p = [] := List.eq_nil_of_length_eq_zero h0
  subst hp
  obtain ⟨s, hs, h1, h2⟩ := (wall_first (b := b) (p := []) h4).2 k x hx
  rw [List.getElem?_cons_zero] at h1 h2
  exact ⟨s, hs, fun _ => (Option.some.inj h2).symm, fun h => absurd h (Nat.lt_irrefl 0)⟩
 ·obtain ⟨y, hy⟩ : ∃ z, (wallsFrom b bs 0 (firstOf bs bs.length) p)[p.length - 1]? = some z := ⟨_, List.getElem?_eq_getElem (by omega)⟩
  have hw := (walls_at (P := p) p 0 (firstOf bs bs.length) rfl (wall_first h4) (p.length - 1) y hy).2
  obtain ⟨s, hs, h1, h2⟩ := hw.2 k x hx
  rw [Nat.zero_add, List.getElem?_cons_succ] at h2
  have hl : (wallsFrom b bs 0 (firstOf bs bs.length) p).getLast? = some y := by rw [List.getLast?_eq_getElem?, hlen]; exact hy
  refine ⟨s, ?_, fun h => absurd h h0, fun _ => h2⟩
  unfold lastW
  rw [hl]
  exact hs
def warmErr (n : Nat) (p : List (List Int)) (bin : Int) : Int := if 20 < p.length then 2 else if within bin 0 ((n : Int) - 1) then 0 else 1
def warmOf (b : Br) (bs : List Bn) (p : List (List Int)) (bin : Int) : List (Int × Int) := if warmErr bs.length p bin = 0 then (match bs[bin.toNat]? with | some x => warmPairs b p bin.toNat x | none => []) else []
theorem Warmth_any (b : Br) (A : Option Addr) (c : Nat) (bs : List Bn) (hl : bs.length ≤ 1000) (P : Option Addr) (q : Nat) (p : List (List Int)) (hpl : p.length ≤ 1000000) (hll : ∀ l ∈ p, l.length ≤ 1000) (bin : Int) (he : checkErr b bs p = 0) (w : World) (hA : BinsAt w A bs) (hP : PlanAt w P p) :
  Calls Try.prog 27 #[.agg #[.int .i64 b.cool, .int .i64 b.gangs, .int .i64 b.r0, .int .i64 b.r1, .int .i64 b.r2, .int .i64 b.r3, .int .i64 b.r4, .int .i64 b.r5, .slice A bs.length c], .slice P p.length q, .int .i64 bin] w fun e w' => ∃ G g, e = .returned (.tuple #[.slice G (warmOf b bs p bin).length g, .int .i64 (warmErr bs.length p bin)]) ∧ OwnSp w' w.heap.size (.slice G (warmOf b bs p bin).length g) (warmOf b bs p bin) ∧ Below w.heap.size w w' := by
 by_cases h20 : 20 < p.length
 ·have e1 : warmErr bs.length p bin = 2 := by unfold warmErr; rw [if_pos h20]
  have e2 : warmOf b bs p bin = [] := by unfold warmOf; rw [e1]; rfl
  rw [e1, e2]
  exact (Warmth_many b A c bs hl P q p hpl hll bin he h20 w hA hP).mono fun e w' h => ⟨_, _, h.1, OwnSp.nil _ _, h.2⟩
 ·cases hb : within bin 0 ((bs.length : Int) - 1) with
  | false =>
   have e1 : warmErr bs.length p bin = 1 := by unfold warmErr; rw [if_neg h20, hb]; rfl
   have e2 : warmOf b bs p bin = [] := by unfold warmOf; rw [e1]; rfl
   rw [e1, e2]
   exact (Warmth_not b A c bs hl P q p hpl hll bin he (by omega) hb w hA hP).mono fun e w' h => ⟨_, _, h.1, OwnSp.nil _ _, h.2⟩
  | true =>
   obtain ⟨k, x, rfl, hx⟩ := bin_of hb
   have hn4 : bs.length ≤ 4 := by have := (barn_right (check_right he).1).1; simp only [within, Bool.and_eq_true, decide_eq_true_eq] at this; omega
   have e1 : warmErr bs.length p (k : Int) = 0 := by unfold warmErr; rw [if_neg h20, hb]; rfl
   have e2 : warmOf b bs p (k : Int) = warmPairs b p k x := by unfold warmOf; rw [e1, if_pos rfl, Int.toNat_natCast, hx]
   have hlen : (warmPairs b p k x).length = p.length := pairs_len b p k x
   rw [e1, e2, hlen]
   exact (Warmth_good b A c bs hl P q p hpl hll he (by omega) k (List.getElem?_eq_some_iff.1 hx).1 w hA hP).mono fun e w' h => by
    obtain ⟨G, g, h1, h2, h3⟩ := h
    rw [walls_pick hn4 hx] at h2
    exact ⟨G, g, h1, h2, h3⟩
theorem trod_one {H : Type} {enc : TypeId × Value → H} {w : World} {base : Nat} {spare : Nat → Bool} {held : Bool} {fuel : Nat} {v : Value} {y : DataW H × List MemPlace} (h : DataW.trod enc Try.prog w base spare held fuel 3 [v] = some y) : ∃ n, v = .int .i64 n := by
 obtain ⟨n, e, _⟩ := DataW.trod_int Try.underlying3 h
 cases e
 exact ⟨n, rfl⟩
theorem cells_int : Try.prog.cellsOf 3 = 1 := by kernel_rfl
theorem cells_six : Try.prog.cellsOf 22 = 6 := by kernel_rfl
theorem cells_span : Try.prog.cellsOf 27 = 2 := by kernel_rfl
theorem cells_bin : Try.prog.cellsOf 39 = 4 := by kernel_rfl
theorem cells_bins : Try.prog.cellsOf 23 = 1 := by kernel_rfl
theorem cells_barn : Try.prog.cellsOf 25 = 9 := by kernel_rfl
theorem list2 {α : Type} {l : List α} (h : l.length = 2) : ∃ a b, l = [a, b] := by
 match l, h with
 | [a, b], _ => exact ⟨a, b, rfl⟩
theorem list3 {α : Type} {l : List α} (h : l.length = 3) : ∃ a b c, l = [a, b, c] := by
 match l, h with
 | [a, b, c], _ => exact ⟨a, b, c, rfl⟩
theorem list4 {α : Type} {l : List α} (h : l.length = 4) : ∃ a b c d, l = [a, b, c, d] := by
 match l, h with
 | [a, b, c, d], _ => exact ⟨a, b, c, d, rfl⟩
theorem list6 {α : Type} {l : List α} (h : l.length = 6) : ∃ a b c d e f, l = [a, b, c, d, e, f] := by
 match l, h with
 | [a, b, c, d, e, f], _ => exact ⟨a, b, c, d, e, f, rfl⟩
theorem list9 {α : Type} {l : List α} (h : l.length = 9) : ∃ a b c d e f g i j, l = [a, b, c, d, e, f, g, i, j] := by
 match l, h with
 | [a, b, c, d, e, f, g, i, j], _ => exact ⟨a, b, c, d, e, f, g, i, j, rfl⟩
theorem open_span {H : Type} {enc : TypeId × Value → H} {w : World} {base : Nat} {spare : Nat → Bool} {held : Bool} {fuel : Nat} {cs : List Value} {x : DataW H × List MemPlace} (h : DataW.trod enc Try.prog w base spare held fuel 27 cs = some x) : ∃ a b : Int, cs = [.int .i64 a, .int .i64 b] := by
 obtain ⟨xs, n, _, _, hl, hxl, hf⟩ := DataW.trod_struct Try.underlying27 h
 rw [cells_span] at hl
 obtain ⟨v0, v1, rfl⟩ := list2 hl
 obtain ⟨y0, y1, rfl⟩ := list2 hxl
 have g0 := hf 0 _ rfl
 have g1 := hf 1 _ rfl
 simp [cells_int] at g0 g1
 obtain ⟨a0, rfl⟩ := trod_one g0
 obtain ⟨a1, rfl⟩ := trod_one g1
 exact ⟨a0, a1, rfl⟩
theorem open_bin {H : Type} {enc : TypeId × Value → H} {w : World} {base : Nat} {spare : Nat → Bool} {held : Bool} {fuel : Nat} {cs : List Value} {x : DataW H × List MemPlace} (h : DataW.trod enc Try.prog w base spare held fuel 39 cs = some x) : ∃ g : Bn, cs = g.cells := by
 obtain ⟨xs, n, _, _, hl, hxl, hf⟩ := DataW.trod_struct Try.underlying39 h
 rw [cells_bin] at hl
 obtain ⟨v0, v1, v2, v3, rfl⟩ := list4 hl
 obtain ⟨y0, y1, y2, rfl⟩ := list3 hxl
 have g0 := hf 0 _ rfl
 have g1 := hf 1 _ rfl
 have g2 := hf 2 _ rfl
 simp [cells_int, cells_span] at g0 g1 g2
 obtain ⟨a0, rfl⟩ := trod_one g0
 obtain ⟨a1, rfl⟩ := trod_one g1
 obtain ⟨a2, a3, e⟩ := open_span g2
 simp at e
 obtain ⟨rfl, rfl⟩ := e
 exact ⟨⟨a0, a1, a2, a3⟩, rfl⟩
theorem list_of {α : Type} {n : Nat} {p : Nat → α → Prop} (h : ∀ i, i < n → ∃ x, p i x) : ∃ xs : List α, xs.length = n ∧ ∀ i x, xs[i]? = some x → p i x := by
 induction n with
 | zero => exact ⟨[], rfl, fun i x h => by simp at h⟩
 | succ n ih =>
  obtain ⟨xs, hl, hx⟩ := ih (fun i hi => h i (by omega))
  obtain ⟨y, hy⟩ := h n (by omega)
  refine ⟨xs ++ [y], by rw [List.length_append, hl]; rfl, fun i x hi => ?_⟩
  by_cases hlt : i < xs.length
  ·rw [List.getElem?_append_left hlt] at hi; exact hx i x hi
  ·rw [List.getElem?_append_right (by omega)] at hi
   have : i - xs.length = 0 := by have := (List.getElem?_eq_some_iff.1 hi).1; simp at this; omega
   rw [this] at hi
   simp at hi
   subst hi
   rw [show i = n from by omega]
   exact hy
theorem no_spot {w : World} {base : Nat} {a : Addr} {n : Nat} {cs : List Value} (h : w.cells? base (a.add (0 * n)) n = some cs) (hn : 0 < n) : a.spot = none := by
 obtain ⟨_, hl, hc⟩ := World.cells?_some h
 have c0 := hc 0 hn
 have e : (a.add (0 * n)).add 0 = a := by simp [Addr.add]
 rw [e, List.getElem?_eq_getElem (by omega)] at c0
 unfold World.cell? at c0
 split at c0
 ·cases hs : a.spot with
  | none => rfl
  | some k => rw [hs] at c0; simp at c0
 ·cases c0
theorem open_bins {H : Type} {enc : TypeId × Value → H} {w : World} {base : Nat} {spare : Nat → Bool} {held : Bool} {fuel : Nat} {v : Value} {x : DataW H × List MemPlace} (h : DataW.trod enc Try.prog w base spare held fuel 23 [v] = some x) :
  ∃ (A : Option Addr) (d : Nat) (gs : List Bn), v = .slice A gs.length d ∧ gs.length ≤ d ∧ d ≤ maxLen ∧ BinsAt w A gs ∧ (A = none → gs.length = 0 ∧ d = 0) := by
 rcases Go.Deep.open_slice Try.underlying23 h with ⟨e, _⟩ | ⟨a, len, cap, m, n, D, Pl, e, _, hl, hm, hmm, _, hx⟩
 ·cases e
  exact ⟨none, 0, [], rfl, Nat.le_refl _, by decide, fun h => absurd h (Nat.lt_irrefl 0), fun _ => ⟨rfl, rfl⟩⟩
 ·cases e
  have hlm : len ≤ m := by rw [hmm]; split <;> omega
  obtain ⟨gs, hgl, hg⟩ := list_of (n := len) (p := fun i (g : Bn) => w.cells? base (a.add (i * 4)) 4 = some g.cells) (fun i hi => by
   obtain ⟨cs', h1, h2⟩ := hx i (by omega)
   obtain ⟨g, rfl⟩ := open_bin h2
   rw [cells_bin] at h1
   exact ⟨g, h1⟩)
  subst hgl
  refine ⟨some a, cap, gs, rfl, hl, hm, fun h0 => ?_, fun h => by cases h⟩
  obtain ⟨B, o, sp⟩ := a
  have hsp := no_spot (hg 0 gs[0] (List.getElem?_eq_getElem h0)) (by decide : 0 < 4)
  simp only at hsp
  subst hsp
  refine ⟨B, o, rfl, fun k x hx j u hj => ?_⟩
  obtain ⟨_, _, hc⟩ := World.cells?_some (hg k x hx)
  have hj4 : j < 4 := by have := (List.getElem?_eq_some_iff.1 hj).1; rwa [Bn.len] at this
  have c0 := hc j hj4
  rw [Addr.add_mid, Addr.add_mid] at c0
  exact c0.trans hj
set_option maxRecDepth 100000 in
theorem open_barn {H : Type} {enc : TypeId × Value → H} {w : World} {base : Nat} {spare : Nat → Bool} {held : Bool} {r : Reach} {b0 : Nat} {v : Value} {d : DataW H} {p : List MemPlace} (hv : Value.okWide Try.prog w r b0 25 v) (h : DataW.Trod enc Try.prog w base spare held 25 v d p) :
  ∃ (b : Br) (A : Option Addr) (c : Nat) (bs : List Bn), v = .agg #[.int .i64 b.cool, .int .i64 b.gangs, .int .i64 b.r0, .int .i64 b.r1, .int .i64 b.r2, .int .i64 b.r3, .int .i64 b.r4, .int .i64 b.r5, .slice A bs.length c] ∧ bs.length ≤ c ∧ c ≤ maxLen ∧ BinsAt w A bs ∧ (A = none → bs.length = 0 ∧ c = 0) := by
 obtain ⟨cs, rfl, hsz⟩ := Go.WideShapes.okWide_struct Try.underlying25 hv
 obtain ⟨fuel, hff⟩ := h
 have hff' : DataW.trod enc Try.prog w base spare held fuel 25 cs.toList = some (d, p) := hff
 obtain ⟨xs, n, _, _, hl, hxl, hf⟩ := DataW.trod_struct Try.underlying25 hff'
 rw [cells_barn] at hl
 obtain ⟨v0, v1, v2, v3, v4, v5, v6, v7, v8, e9⟩ := list9 hl
 rw [e9] at hf
 obtain ⟨y0, y1, y2, y3, rfl⟩ := list4 hxl
 have g0 := hf 0 _ rfl
 have g1 := hf 1 _ rfl
 have g2 := hf 2 _ rfl
 have g3 := hf 3 _ rfl
 simp [cells_int, cells_six, cells_bins] at g0 g1 g2 g3
 obtain ⟨a0, rfl⟩ := trod_one g0
 obtain ⟨a1, rfl⟩ := trod_one g1
 obtain ⟨zs, m, _, _, _, hzl, hz⟩ := DataW.trod_array Try.underlying22 g2
 obtain ⟨z0, z1, z2, z3, z4, z5, rfl⟩ := list6 hzl
 have k0 := hz 0 (by decide)
 have k1 := hz 1 (by decide)
 have k2 := hz 2 (by decide)
 have k3 := hz 3 (by decide)
 have k4 := hz 4 (by decide)
 have k5 := hz 5 (by decide)
 simp [cells_int] at k0 k1 k2 k3 k4 k5
 obtain ⟨b0, rfl⟩ := trod_one k0
 obtain ⟨b1, rfl⟩ := trod_one k1
 obtain ⟨b2, rfl⟩ := trod_one k2
 obtain ⟨b3, rfl⟩ := trod_one k3
 obtain ⟨b4, rfl⟩ := trod_one k4
 obtain ⟨b5, rfl⟩ := trod_one k5
 obtain ⟨A, c, bs, rfl, hr⟩ := open_bins g3
 refine ⟨⟨a0, a1, b0, b1, b2, b3, b4, b5⟩, A, c, bs, ?_, hr⟩
 have e' : cs = cs.toList.toArray := by rw [Array.toArray_toList]
 rw [e', e9]
theorem cells_ints : Try.prog.cellsOf 55 = 1 := by kernel_rfl
theorem one_of {cs : List Value} (h : cs.length = 1) : ∃ c, cs = [c] := by
 cases cs with
 | nil => simp at h
 | cons c l => cases l with
  | nil => exact ⟨c, rfl⟩
  | cons => simp at h
theorem open_row {H : Type} {enc : TypeId × Value → H} {w : World} {base : Nat} {spare : Nat → Bool} {held : Bool} {fuel : Nat} {v : Value} {x : DataW H × List MemPlace} (hgf : DataW.trod enc Try.prog w base spare held fuel 55 [v] = some x) :
  ∃ (A : Option Addr) (c : Nat) (xs : List Int), v = .slice A xs.length c ∧ xs.length ≤ c ∧ c ≤ maxLen ∧ IntsAt w A xs ∧ (A = none → xs.length = 0 ∧ c = 0) := by
 rcases Go.Deep.open_slice Try.underlying55 hgf with ⟨e, _⟩ | ⟨a, len, cap, m, n, D, Pl, e, _, hl, hm, hmm, _, hx⟩
 ·cases e
  exact ⟨none, 0, [], rfl, Nat.le_refl _, by decide, fun h => absurd h (Nat.lt_irrefl 0), fun _ => ⟨rfl, rfl⟩⟩
 ·cases e
  have hlm : len ≤ m := by rw [hmm]; split <;> omega
  obtain ⟨xs, hgl, hg⟩ := list_of (n := len) (p := fun i (x : Int) => w.cells? base (a.add (i * 1)) 1 = some [.int .i64 x]) (fun i hi => by
   obtain ⟨cs', h1, h2⟩ := hx i (by omega)
   rw [cells_int] at h1
   obtain ⟨c0, rfl⟩ := one_of (World.cells?_some h1).2.1
   obtain ⟨x, rfl⟩ := trod_one h2
   exact ⟨x, h1⟩)
  subst hgl
  refine ⟨some a, cap, xs, rfl, hl, hm, fun h0 => ?_, fun h => by cases h⟩
  obtain ⟨B, o, sp⟩ := a
  have hsp := no_spot (hg 0 xs[0] (List.getElem?_eq_getElem h0)) (by decide : 0 < 1)
  simp only at hsp
  subst hsp
  refine ⟨B, o, rfl, fun k x hx => ?_⟩
  obtain ⟨_, _, hc⟩ := World.cells?_some (hg k x hx)
  have c0 := hc 0 (by decide)
  rw [Addr.add_mid, Addr.add_mid] at c0
  simpa using c0
set_option maxRecDepth 100000 in
theorem open_plan {H : Type} {enc : TypeId × Value → H} {w : World} {base : Nat} {spare : Nat → Bool} {held : Bool} {r : Reach} {b0 : Nat} {v : Value} {d : DataW H} {pl : List MemPlace} (hv : Value.okWide Try.prog w r b0 50 v) (h : DataW.Trod enc Try.prog w base spare held 50 v d pl) :
  ∃ (P : Option Addr) (q : Nat) (p : List (List Int)), v = .slice P p.length q ∧ p.length ≤ 9223372036854775807 ∧ PlanAt w P p ∧ ∀ l ∈ p, l.length ≤ 9223372036854775807 := by
 obtain ⟨a, len, cap, rfl⟩ := Go.WideShapes.okWide_slice Try.underlying50 hv
 obtain ⟨fuel, hf⟩ := h
 have hgf : DataW.trod enc Try.prog w base spare held fuel 50 [.slice a len cap] = some (d, pl) := hf
 rcases Go.Deep.open_slice Try.underlying50 hgf with ⟨e, _⟩ | ⟨a, len, cap, m, n, D, Pl, e, _, hl, hm, hmm, _, hx⟩
 ·cases e
  exact ⟨none, 0, [], rfl, by decide, fun h => absurd h (Nat.lt_irrefl 0), fun l hl => by cases hl⟩
 ·cases e
  have hlm : len ≤ m := by rw [hmm]; split <;> omega
  obtain ⟨p, hgl, hg⟩ := list_of (n := len) (p := fun i (l : List Int) => ∃ A c, w.cells? base (a.add (i * 1)) 1 = some [.slice A l.length c] ∧ IntsAt w A l ∧ (A = none → l.length = 0 ∧ c = 0) ∧ l.length ≤ 9223372036854775807) (fun i hi => by
   obtain ⟨cs', h1, h2⟩ := hx i (by omega)
   rw [cells_ints] at h1
   obtain ⟨c0, rfl⟩ := one_of (World.cells?_some h1).2.1
   obtain ⟨A, c, xs, rfl, q1, q2, q3, q4⟩ := open_row h2
   exact ⟨xs, A, c, h1, q3, q4, by unfold maxLen at q2; omega⟩)
  subst hgl
  refine ⟨some a, cap, p, rfl, by unfold maxLen at hm; omega, fun h0 => ?_, fun l hl => ?_⟩
  ·obtain ⟨B, o, sp⟩ := a
   obtain ⟨A0, c0, h0', -⟩ := hg 0 p[0] (List.getElem?_eq_getElem h0)
   have hsp := no_spot h0' (by decide : 0 < 1)
   simp only at hsp
   subst hsp
   refine ⟨B, o, rfl, fun k l hl => ?_⟩
   obtain ⟨A, c, h1, h2, h3, -⟩ := hg k l hl
   obtain ⟨_, _, hc⟩ := World.cells?_some h1
   have c0 := hc 0 (by decide)
   rw [Addr.add_mid, Addr.add_mid] at c0
   exact ⟨A, c, by simpa using c0, h2, h3⟩
  ·obtain ⟨k, hk, rfl⟩ := List.getElem_of_mem hl
   obtain ⟨A, c, -, -, -, h4⟩ := hg k _ (List.getElem?_eq_getElem hk)
   exact h4
end Go.Proofs.Ytokafjkinkafiaa
