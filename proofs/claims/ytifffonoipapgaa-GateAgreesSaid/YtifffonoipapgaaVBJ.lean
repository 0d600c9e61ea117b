import Derived.Shelf.Spec.SlicesInsert
import Derived.Deep.MidRow
import Derived.Test.YtifffonoipapgaaVAA
import Derived.Test.YtifffonoipapgaaVAC
import Derived.Test.YtifffonoipapgaaVAM
import Derived.Test.YtifffonoipapgaaVAN
import Derived.Test.YtifffonoipapgaaVAO
import Derived.Test.YtifffonoipapgaaVAU
import Derived.Test.YtifffonoipapgaaVAX
import Derived.Test.YtifffonoipapgaaVBB
import Derived.Test.YtifffonoipapgaaVBC
import Derived.Test.YtifffonoipapgaaVBH
import Derived.Test.YtifffonoipapgaaVBI
set_option linter.unusedSimpArgs false
set_option linter.unusedVariables false
namespace Go.Proofs.Ytifffonoipapgaa
open Go.RowKit
def hitB (L : Nat → List Mx) (s m : Nat) : Bool := decide (0 < (L m).length) && apartB m s
def agreeB (L : Nat → List Mx) (s : Nat) : Bool := (List.range 64).any (hitB L s)
theorem agreeB_true {L : Nat → List Mx} {s m : Nat} (hm : m < 64) (h : hitB L s m = true) : agreeB L s = true := List.any_eq_true.2 ⟨m, List.mem_range.2 hm, h⟩
theorem agreeB_false {L : Nat → List Mx} {s : Nat} (h : ∀ m, m < 64 → hitB L s m = false) : agreeB L s = false := by
 unfold agreeB
 rw [List.any_eq_false]
 intro m hm
 rw [h m (List.mem_range.1 hm)]
 decide
theorem refAgree_any (O B : Nat) (f : Nat → Value) (L : Nat → List Mx) (s : Nat) (hs : s < 4611686018427387904) (w : World) (hT : Tab w O B f f L) : Calls Try.prog 48 #[.slice (some ⟨O, 0, none⟩) 64 64, .int .i64 (s : Int)] w fun e w' => e = .returned (.bool (agreeB L s)) ∧ w' = w := by
 have HT := Lib.hid hT
 clear hT
 go_enter Try.func48, Try.ntmps48
 go_wp2_with fail
 go_loopw [5] (fun v5 wr => ∃ k : Nat, v5 = .int .i64 (k : Int) ∧ k ≤ 64 ∧ Hid (∀ m, m < k → hitB L s m = false) ∧ wr = w) (fun v5 _ => 64 - (intOf v5).toNat)
 case atStart => exact ⟨0, rfl, by decide, Lib.hid (fun m hm => absurd hm (Nat.not_lt_zero m)), rfl⟩
 case round =>
  obtain ⟨k, rfl, hk, he, rfl⟩ := hrel
  by_cases h0 : k < 64
  ·have hk' : (k : Int) < 64 := by omega
   obtain ⟨A, q, hv, hq1, hq2⟩ := rk_val (HT.out.2.1 k h0)
   have kc := HT.out.1.cell h0
   obtain ⟨n, hn⟩ : ∃ n, n = (L k).length := ⟨_, rfl⟩
   have HH : Hid (hitB L s k = (decide (0 < n) && apartB k s)) := Lib.hid (by rw [hn]; rfl)
   rw [hv, ← hn] at kc
   clear hv hn hq1 hq2
   obtain ⟨b, hb⟩ : ∃ b, b = apartB k s := ⟨_, rfl⟩
   have HV := Lib.hid hb.symm
   rw [← hb] at HH
   clear hb
   by_cases h1 : 0 < n
   ·have h1' : (0 : Int) < (n : Int) := by omega
    cases b with
    | true =>
     have HE : Hid (agreeB L s = true) := Lib.hid (agreeB_true h0 (by rw [HH.out, decide_eq_true h1]; rfl))
     go_wp2_with (go_at_call 110; refine (apart_any k s (by omega) hs _).mono ?_; rw [HV.out]; rintro e w2_ ⟨rfl, rfl⟩)
     go_ret
     exact ⟨by rw [HE.out]; rfl, rfl⟩
    | false =>
     have HE : Hid (hitB L s k = false) := Lib.hid (by rw [HH.out, Bool.and_false])
     have HN : Hid (∀ m, m < k + 1 → hitB L s m = false) := Lib.hid (fun m hm => by
      by_cases e : m = k
      ·rw [e, HE.out]
      ·exact he.out m (by omega))
     go_wp2_with (go_at_call 110; refine (apart_any k s (by omega) hs _).mono ?_; rw [HV.out]; rintro e w2_ ⟨rfl, rfl⟩)
     go_roundw
     case rel => exact ⟨k + 1, by go_num, by omega, HN, by first | rfl | exact True.intro⟩
     case measure => simp [intOf]; omega
   ·have h1' : ¬ (0 : Int) < (n : Int) := by omega
    have HE : Hid (hitB L s k = false) := Lib.hid (by rw [HH.out, decide_eq_false h1, Bool.false_and])
    have HN : Hid (∀ m, m < k + 1 → hitB L s m = false) := Lib.hid (fun m hm => by
     by_cases e : m = k
     ·rw [e, HE.out]
     ·exact he.out m (by omega))
    go_wp2_with fail
    go_roundw
    case rel => exact ⟨k + 1, by go_num, by omega, HN, by first | rfl | exact True.intro⟩
    case measure => simp [intOf]; omega
  ·have hk' : ¬ (k : Int) < 64 := by omega
   have HE : Hid (agreeB L s = false) := Lib.hid (agreeB_false (fun m hm => he.out m (by omega)))
   go_wp2_with fail
   go_ret
   exact ⟨by rw [HE.out]; rfl, rfl⟩
open Go.RowKit Go.Maps
def seenElem : Value → Option (DataW Unit × List MemPlace)
 | .bool c => some (.lit (.bool c), [])
 | _ => none
theorem seenElem_inv {v : Value} {c : Bool} {ps : List MemPlace} (h : seenElem v = some (.lit (.bool c), ps)) : v = .bool c := by
 unfold seenElem at h
 split at h
 ·simp at h; rw [h.1]
 ·cases h
theorem und_seen : Try.prog.underlying 181 = some (.map 3 4) := Try.underlying181
theorem zero_seen (w : World) : (zeroValue 4).run Try.prog w = .ok (.bool false) w := by kernel_rfl
def Sees (xs : List Int) (D : DataW Unit) : Prop := IsMap D ∧ ∀ n : Int, D.atKey (.int .i64 n) (.lit (.bool false)) = .lit (.bool (decide (n ∈ xs)))
theorem sees_nil : Sees [] (.map []) := ⟨isMap_empty, fun n => by rw [decide_eq_false (List.not_mem_nil)]; rfl⟩
theorem Sees.put {xs : List Int} {D : DataW Unit} (h : Sees xs D) (x : Int) : Sees (xs ++ [x]) (D.put (.int .i64 x) (.lit (.bool true))) := by
 refine ⟨h.1.put _ _, fun n => ?_⟩
 by_cases e : n = x
 ·subst e
  rw [atKey_put_same h.1 (by simp [WideAt.IsKeyLit])]
  simp
 ·rw [atKey_put_other (by intro e'; simp at e'; exact e e'), h.2 n]
  simp [e]
def twice (xs : List Int) : Bool := !decide xs.Nodup
def TwiceRel (xs : List Int) (w : World) (v9 : Value) (wr : World) : Prop :=
 ∃ (k : Nat) (D : DataW Unit), v9 = .int .i64 (k : Int) ∧ k ≤ xs.length ∧ Hid (xs.take k).Nodup ∧ Hid (Sees (xs.take k) D) ∧ Hid (wr.ownsMap Try.prog 3 seenElem w.heap.size k D) ∧ Below w.heap.size w wr
set_option maxRecDepth 100000 in
set_option maxHeartbeats 4000000 in
theorem hasTwice_any (A : Option Addr) (c : Nat) (xs : List Int) (w : World) (hA : IntsAt w A xs) (hl : xs.length ≤ 1000000) (hw : ∀ x ∈ xs, (Lit.int .i64 x).wf = true) :
  Calls Try.prog 114 #[.slice A xs.length c] w fun e w' => e = .returned (.bool (twice xs)) ∧ Below w.heap.size w w' := by
 have HA := Lib.hid hA
 have HW := Lib.hid hw
 clear hA hw
 have hmm : ∀ (t : TypeId) (w : World), (Instr.makeMap t none).run Try.prog w = .ok (.map (some w.heap.size)) (w.alloc (.map #[] 0)) := fun _ _ => rfl
 go_enter Try.func114, Try.ntmps114
 go_wp2_with fail
 go_loopw [9] (fun v9 wr => TwiceRel xs w v9 wr) (fun v9 _ => xs.length - (intOf v9).toNat)
 case atStart => exact ⟨0, .map [], rfl, Nat.zero_le _, Lib.hid (by simp), Lib.hid sees_nil, Lib.hid (World.ownsMap_made w _ _ _), zg⟩
 case round =>
  obtain ⟨k, D, rfl, hk, hnd, hse, hown, hB⟩ := hrel
  have HB := Lib.hid hB
  have hsz := hB.size
  clear hB
  by_cases hlt : k < xs.length
  ·obtain ⟨B, o, rfl, hcell⟩ := (HA.out.up HB.out) (by omega)
   have c0 := hcell k _ (List.getElem?_eq_getElem hlt)
   clear hcell
   obtain ⟨x, hx⟩ : ∃ z, z = xs[k] := ⟨_, rfl⟩
   rw [← hx] at c0
   have hwf : (Lit.int .i64 x).wf = true := HW.out x (hx ▸ List.getElem_mem hlt)
   have hkey : keyOf Try.prog 3 (.int .i64 x) = some (.int .i64 x) := keyOf_int_mk und_int hwf
   have htk : xs.take (k + 1) = xs.take k ++ [x] := by rw [List.take_add_one, List.getElem?_eq_getElem hlt, ← hx]; rfl
   obtain ⟨v, ps, hrun, hv⟩ := hown.out.lookup (int_keyed und_int) und_seen (zero_seen wr) (zd := .lit (.bool false)) (zp := []) rfl hkey
   rw [hse.out.2 x] at hv
   have hv := seenElem_inv hv
   subst hv
   have HT := Lib.hid htk
   have HX := Lib.hid hx
   clear hx htk
   cases hm : decide (x ∈ xs.take k) with
   | true =>
    rw [hm] at hrun
    have hf : twice xs = true := by
     unfold twice
     rw [decide_eq_false]; rfl
     intro hn
     have hn2 : (xs.take (k + 1)).Nodup := hn.sublist (List.take_sublist _ _)
     rw [HT.out, List.nodup_append] at hn2
     exact hn2.2.2 x (of_decide_eq_true hm) x (List.mem_singleton.2 rfl) rfl
    have HF := Lib.hid hf
    clear hm hf
    go_wp2_with fail
    go_ret
    exact ⟨by rw [HF.out]; rfl, HB.out⟩
   | false =>
    rw [hm] at hrun
    have hn2 : (xs.take (k + 1)).Nodup := by
     rw [HT.out, List.nodup_append]
     refine ⟨hnd.out, by simp, fun a ha b hb => ?_⟩
     rw [List.mem_singleton] at hb
     subst hb
     exact fun e => of_decide_eq_false hm (e ▸ ha)
    have HN := Lib.hid hn2
    clear hm hn2
    go_wp2_with (first | (at_mapUpdate; refine wpList_mapUpdate_own _ rfl _ _ _ 181 rfl 3 4 (int_keyed und_int) und_seen seenElem w.heap.size k D rfl hown.out (by unfold maxLen; omega) _ _ (.int .i64 x) rfl rfl hkey (.lit (.bool true)) [] rfl ?_; intro w3 hown3 hgrow3))
    go_roundw
    case rel => exact ⟨k + 1, _, by go_num, hlt, HN, Lib.hid (HT.out ▸ hse.out.put x), Lib.hid hown3, HB.out.grown hgrow3 hsz (fun q hq => by cases hq; exact Nat.le_refl _)⟩
    case measure => simp [intOf]; omega
  ·have hkl : k = xs.length := by omega
   have hf : twice xs = false := by
    have hn := hnd.out
    rw [hkl, List.take_length] at hn
    unfold twice
    rw [decide_eq_true hn]; rfl
   have HF := Lib.hid hf
   clear hf
   go_wp2_with fail
   go_ret
   exact ⟨by rw [HF.out]; rfl, HB.out⟩

theorem MadeOk.snoc {err miss full emp m0 m1 m2 m3 : Int} {gs : List Gr} {hs : List Hf} (h : MadeOk err miss full emp m0 m1 m2 m3 gs hs) {x : Hf} (hx : TakenOk miss m0 m1 m2 m3 x) : MadeOk err miss full emp m0 m1 m2 m3 gs (hs ++ [x]) :=
 { h with
  taken := by
   intro y hy
   rcases List.mem_append.1 hy with hy | hy
   ·exact h.taken y hy
   ·rw [List.mem_singleton] at hy; subst hy; exact hx }
theorem hands_flat {w : World} {B o : Nat} {hs : List Hf} (hc : ∀ k h, hs[k]? = some h → w.cell? ⟨B, o + k * 5, none⟩ = some (.int .i64 h.spot) ∧ w.cell? ⟨B, o + k * 5 + 1, none⟩ = some (.int .i64 h.g0) ∧
  w.cell? ⟨B, o + k * 5 + 2, none⟩ = some (.int .i64 h.g1) ∧ w.cell? ⟨B, o + k * 5 + 3, none⟩ = some (.int .i64 h.g2) ∧ w.cell? ⟨B, o + k * 5 + 4, none⟩ = some (.int .i64 h.g3)) :
  ∀ j v, (hs.flatMap Hf.cells)[j]? = some v → w.cell? ((⟨B, o, none⟩ : Addr).add j) = some v := by
 intro j v hj
 rw [Addr.add_mid]
 have hlt : j < hs.length * 5 := by rw [← flat_len Hf.cells (fun _ => rfl) hs]; exact (List.getElem?_eq_some_iff.1 hj).1
 have hk : j / 5 < hs.length := by omega
 have hx : hs[j / 5]? = some hs[j / 5] := List.getElem?_eq_getElem hk
 have h5 : j % 5 < 5 := Nat.mod_lt _ (by decide)
 have hq := flat_at Hf.cells (fun _ => rfl) hs (j / 5) (j % 5) _ hx h5
 rw [show j / 5 * 5 + j % 5 = j from by omega, hj] at hq
 obtain ⟨c0, c1, c2, c3, c4⟩ := hc _ _ hx
 have hjj : o + j = o + j / 5 * 5 + j % 5 := by omega
 rw [hjj]
 generalize j % 5 = i at hq h5
 match i, h5 with
 | 0, _ => exact c0.trans hq.symm
 | 1, _ => exact c1.trans hq.symm
 | 2, _ => exact c2.trans hq.symm
 | 3, _ => exact c3.trans hq.symm
 | 4, _ => exact c4.trans hq.symm
theorem hands_one (hs : List Hf) : ∀ v ∈ hs.flatMap Hf.cells, v.oneCell' = true := by
 intro v hv
 obtain ⟨x, _, hx⟩ := List.mem_flatMap.1 hv
 simp only [Hf.cells, List.mem_cons, List.not_mem_nil, or_false] at hx
 rcases hx with rfl | rfl | rfl | rfl | rfl <;> rfl

theorem wf_small {x : Int} {n : Nat} (h : within x 0 ((n : Int) - 1) = true) (hn : n ≤ 1000) : (Lit.int .i64 x).wf = true := by
 simp only [within, Bool.and_eq_true, decide_eq_true_eq] at h
 have h1 : IntKind.min .i64 = -9223372036854775808 := by decide
 have h2 : IntKind.max .i64 = 9223372036854775807 := by decide
 simp only [Lit.wf, h1, h2, Bool.and_eq_true, decide_eq_true_eq]
 omega
theorem cf_has (args : Array Value) (w : World) : (callFunc 99 args).run Try.prog w = .ok (.enter 99 args) w := by kernel_rfl
set_option maxRecDepth 100000 in
set_option maxHeartbeats 2000000 in
theorem everyHas_any (full emp : Int) (H : Option Addr) (n q : Nat) (hn : n ≤ 1000) (A : Option Addr) (c : Nat) (xs : List Int) (w : World) (hA : IntsAt w A xs) (hl : xs.length ≤ 1000) :
  Calls Try.prog 113 #[.slice A xs.length c, .func (.func 99) #[.agg #[.int .i64 full, .int .i64 emp, .slice H n q]] #[]] w fun e w' => e = .returned (.bool (xs.all (fun x => within x 0 ((n : Int) - 1)))) ∧ Below w.heap.size w w' := by
 obtain ⟨p, hp⟩ : ∃ p : Int → Bool, p = fun x => within x 0 ((n : Int) - 1) := ⟨_, rfl⟩
 have hF : ∀ (x : Int) (w : World), Calls Try.prog 99 #[.agg #[.int .i64 full, .int .i64 emp, .slice H n q], .int .i64 x] w fun e w' => e = .returned (.bool (p x)) ∧ Below w.heap.size w w' := fun x w => by rw [hp]; exact hasHandful_any full emp H n q x w hn
 rw [← hp]
 have HF := Lib.hid hF
 have HA := Lib.hid hA
 have hcf := cf_has
 clear hF hA hp
 go_enter Try.func113, Try.ntmps113
 go_wp2_with fail
 go_loopw [9] (fun v9 wr => ∃ k : Nat, k ≤ xs.length ∧ v9 = .int .i64 k ∧ Hid (xs.all p = (xs.drop k).all p) ∧ Below w.heap.size w wr) (fun v9 _ => xs.length - (intOf v9).toNat)
 case atStart => exact ⟨0, Nat.zero_le _, rfl, rfl, Below.refl _ _⟩
 case round =>
  obtain ⟨k, hk, rfl, hp, hB⟩ := hrel
  by_cases hlt : k < xs.length
  ·have hx : xs[k]? = some xs[k] := List.getElem?_eq_getElem hlt
   obtain ⟨B, o, rfl, hc⟩ := (HA.out.up hB) (by omega)
   have c0 := hc k _ hx
   clear hc
   have HX := Lib.hid hx
   clear hx
   have hS := hB.size
   cases hq : p xs[k] with
   | true =>
    go_wp2_with ((with_reducible refine Calls.mono (HF.out _ _) ?_); rintro e w2 ⟨rfl, hb2⟩; have hB2 : Below w.heap.size w w2 := Below.trans zg (hb2.mono (by first | omega | (simp; omega))))
    go_roundw
    case rel => exact ⟨k + 1, hlt, by go_num, by rw [hp.out, List.drop_eq_getElem_cons hlt, List.all_cons, hq, Bool.true_and]; exact rfl, hB2⟩
    case measure => simp [intOf]; omega
   | false =>
    go_wp2_with ((with_reducible refine Calls.mono (HF.out _ _) ?_); rintro e w2 ⟨rfl, hb2⟩; have hB2 : Below w.heap.size w w2 := Below.trans zg (hb2.mono (by first | omega | (simp; omega))))
    go_ret
    have hfin : xs.all p = false := by rw [hp.out, List.drop_eq_getElem_cons hlt, List.all_cons, hq, Bool.false_and]
    exact ⟨by rw [hfin]; rfl, hB2⟩
  ·have hkl : k = xs.length := by omega
   go_wp2_with fail
   go_ret
   have hfin : xs.all p = true := by rw [hp.out, hkl, List.drop_length]; rfl
   exact ⟨by rw [hfin]; rfl, hB⟩
theorem zp6 {p : Prop} (h : p := by (repeat first | (with_reducible first | assumption | apply Holds.set7 | apply Holds.set2 | apply Holds.set4 | apply Holds.putL | ((refine Holds.new' _ _ ?_); (simp; done)) | refine Holds.alloc ?_ _ | refine Holds.drew ?_ | refine Holds.far ?_ (by simp only [ne_eq]; omega) _) | rfl)) : p := h
set_option maxRecDepth 100000 in
set_option maxHeartbeats 4000000 in
theorem Agree_in (err miss full emp : Int) (G H : Option Addr) (d q : Nat) (gs : List Gr) (hs : List Hf) (A : Option Addr) (c : Nat) (xs : List Int) (w : World) (hG : GradesAt w G gs) (hgl : gs.length ≤ 1000) (hA : HandsAt w H hs) (hl : hs.length ≤ 1000) (he : bothErr err miss gs full emp hs = 0)
  (hX : IntsAt w A xs) (hlx : xs.length ≤ 1000) (hin : ∀ x ∈ xs, within x 0 ((hs.length : Int) - 1) = true) (htw : twice xs = false) :
  Calls Try.prog 51 #[.agg #[.int .i64 err, .int .i64 miss, .slice G gs.length d], .agg #[.int .i64 full, .int .i64 emp, .slice H hs.length q], .slice A xs.length c] w fun e w' =>
   e = .returned (.tuple #[.bool (!(boundsOf miss (fun i => xs.contains (i : Int)) hs).empty), .int .i64 0]) ∧ Below w.heap.size w w' := by
 have HH := Lib.hid hA
 have HG := Lib.hid hG
 have HX := Lib.hid hX
 obtain ⟨hg0, hc0⟩ := bothErr_zero he
 obtain ⟨_, r0, r1, m0, m1, _, _⟩ := gateErr_zero hg0
 obtain ⟨_, f0, f1, e0, e1, ht, hn⟩ := cartErr_zero hc0
 have HE := Lib.hid he
 have HT := Lib.hid ht
 have HN := Lib.hid hn
 have hwf : ∀ x ∈ xs, (Lit.int .i64 x).wf = true := fun x hx => wf_small (hin x hx) hl
 have hal : xs.all (fun x => within x 0 ((hs.length : Int) - 1)) = true := List.all_eq_true.2 hin
 have HWF := Lib.hid hwf
 have HAL := Lib.hid hal
 have HTW := Lib.hid htw
 have hlx' : xs.length ≤ 1000000 := by omega
 obtain ⟨rb, hrb⟩ : ∃ z, z = !(boundsOf miss (fun i => xs.contains (i : Int)) hs).empty := ⟨_, rfl⟩
 rw [← hrb]
 have HRB := Lib.hid hrb
 clear he hg0 hc0 ht hn hA hG hX hwf hal htw hrb hin
 go_enter Try.func51, Try.ntmps51
 go_wp2_with fail
 refine (arrive_at err miss full emp G H d q gs hs _ (HG.out.up zg) hgl (HH.out.up zg) hl HE.out).mono ?_
 rintro e w2 ⟨rfl, hb2⟩
 have Hg2 := Lib.hid (Holds.up (zp6 : Holds _ (w.heap.size) 24 #[.int .i64 err, .int .i64 miss, .slice G gs.length d]) hb2)
 have Hc2 := Lib.hid (Holds.up (zp6 : Holds _ (w.heap.size + 1) 27 #[.int .i64 full, .int .i64 emp, .slice H hs.length q]) hb2)
 have HS2 : Hid (Below w.heap.size w w2) := Lib.hid (Below.trans zg (hb2.mono (by first | exact Nat.le_refl _ | omega | (simp; done) | (simp; omega))))
 have HB2 := HS2
 have hs2 := HB2.out.size
 have hst2 := HS2.out.size
 have HH2 := Lib.hid (HH.out.up HS2.out)
 have HX2 := Lib.hid (HX.out.up HS2.out)
 clear hb2
 go_wp2_with fail
 refine (everyHas_any full emp H hs.length q hl A c xs _ (HX2.out.up zg) hlx).mono ?_
 rw [HAL.out]
 rintro e w3 ⟨rfl, hb3⟩
 have Hg3 := Lib.hid (Holds.up (by have h := Hg2.out; exact zp6 : Holds _ (w.heap.size) 24 #[.int .i64 err, .int .i64 miss, .slice G gs.length d]) hb3)
 have Hc3 := Lib.hid (Holds.up (by have h := Hc2.out; exact zp6 : Holds _ (w.heap.size + 1) 27 #[.int .i64 full, .int .i64 emp, .slice H hs.length q]) hb3)
 have Ha3 := Lib.hid (Holds.up (zp6 : Holds _ (w2.heap.size) 147 #[.int .i64 full, .int .i64 emp, .slice H hs.length q, .int .i64 err, .int .i64 miss, .slice G gs.length d, .func (.func 99) #[.agg #[.int .i64 full, .int .i64 emp, .slice H hs.length q]] #[]]) hb3)
 have HS3 : Hid (Below w2.heap.size w2 w3) := Lib.hid (Below.trans zg (hb3.mono (by first | exact Nat.le_refl _ | omega | (simp; done) | (simp; omega))))
 have HB3 : Hid (Below w.heap.size w w3) := Lib.hid (HB2.out.trans (HS3.out.mono hs2))
 have hs3 := HB3.out.size
 have hst3 := HS3.out.size
 have HH3 := Lib.hid (HH2.out.up HS3.out)
 have HX3 := Lib.hid (HX2.out.up HS3.out)
 clear hb3
 go_wp2_with fail
 refine (hasTwice_any A c xs _ (HX3.out.up zg) hlx' HWF.out).mono ?_
 rw [HTW.out]
 rintro e w4 ⟨rfl, hb4⟩
 have Hg4 := Lib.hid (Holds.up (by have h := Hg3.out; exact zp6 : Holds _ (w.heap.size) 24 #[.int .i64 err, .int .i64 miss, .slice G gs.length d]) hb4)
 have Hc4 := Lib.hid (Holds.up (by have h := Hc3.out; exact zp6 : Holds _ (w.heap.size + 1) 27 #[.int .i64 full, .int .i64 emp, .slice H hs.length q]) hb4)
 have Ha4 := Lib.hid (Holds.up (by have h := Ha3.out; exact zp6 : Holds _ (w2.heap.size) 147 #[.int .i64 full, .int .i64 emp, .slice H hs.length q, .int .i64 err, .int .i64 miss, .slice G gs.length d, .func (.func 99) #[.agg #[.int .i64 full, .int .i64 emp, .slice H hs.length q]] #[]]) hb4)
 have HS4 : Hid (Below w3.heap.size w3 w4) := Lib.hid (Below.trans zg (hb4.mono (by first | exact Nat.le_refl _ | omega | (simp; done) | (simp; omega))))
 have HB4 : Hid (Below w.heap.size w w4) := Lib.hid (HB3.out.trans (HS4.out.mono hs3))
 have hs4 := HB4.out.size
 have hst4 := HS4.out.size
 have HH4 := Lib.hid (HH3.out.up HS4.out)
 have HX4 := Lib.hid (HX3.out.up HS4.out)
 clear hb4
 go_wp2_with fail
 rename_i Kc hKc
 have HSL := Lib.hid (show slotsOf [some 30, some 31, some 32, some 33, some 6, some 7] = [30, 31, 32, 33, 6, 7] from rfl)
 refine wp_region_partsG (by kernel_rfl) [some 30, some 31, some 32, some 33, some 6, some 7] (fun jq xq w' => match jq with
  | 0 => xq 30 = .agg #[.int .i64 full, .int .i64 emp, .slice H hs.length q, .int .i64 err, .int .i64 miss, .slice G gs.length d, .func (.func 99) #[.agg #[.int .i64 full, .int .i64 emp, .slice H hs.length q]] #[]]
  | 1 => xq 31 = .slice A xs.length c
  | 2 => ∃ b, xq 32 = .func (.func 140) #[] #[.pointer (some ⟨b, 0, none⟩)] ∧ Holds w' b 87 #[.slice A xs.length c]
  | 3 => xq 33 = .bool rb
  | 4 => xq 6 = .bool rb
  | 5 => xq 7 = .int .i64 0
  | _ => True) [[30], [31], [32], [33], [6], [7]] [] (fun w' => Below w4.heap.size w4 w') (by kernel_rfl)  ?_ ?_ (fun w' w'' hb h => h.trans (hb.mono h.size)) (Below.refl _ _) ?_ ?_ ?_
 ·intro jq xq xq' wqq h hv
  match jq, h, hv with
  | 0, h, hv => show xq' 30 = .agg #[.int .i64 full, .int .i64 emp, .slice H hs.length q, .int .i64 err, .int .i64 miss, .slice G gs.length d, .func (.func 99) #[.agg #[.int .i64 full, .int .i64 emp, .slice H hs.length q]] #[]]; rw [← h 30 (by decide)]; exact hv
  | 1, h, hv => show xq' 31 = .slice A xs.length c; rw [← h 31 (by decide)]; exact hv
  | 2, h, hv => show ∃ b, xq' 32 = .func (.func 140) #[] #[.pointer (some ⟨b, 0, none⟩)] ∧ Holds wqq b 87 #[.slice A xs.length c]; rw [← h 32 (by decide)]; exact hv
  | 3, h, hv => show xq' 33 = .bool rb; rw [← h 33 (by decide)]; exact hv
  | 4, h, hv => show xq' 6 = .bool rb; rw [← h 6 (by decide)]; exact hv
  | 5, h, hv => show xq' 7 = .int .i64 0; rw [← h 7 (by decide)]; exact hv
  | _ + 6, _, _ => trivial
 ·intro jq xq wqq w' hb' hv
  match jq, hv with
  | 0, hv => exact hv
  | 1, hv => exact hv
  | 2, ⟨b0, h0, h1⟩ => exact ⟨b0, h0, h1.up hb'⟩
  | 3, hv => exact hv
  | 4, hv => exact hv
  | 5, hv => exact hv
  | _ + 6, _ => trivial
 ·intro jq hj
  match jq, hj with
  | 0, hj => exact absurd hj (by decide)
  | 1, hj => exact absurd hj (by decide)
  | 2, hj => exact absurd hj (by decide)
  | 3, hj => exact absurd hj (by decide)
  | 4, hj => exact absurd hj (by decide)
  | 5, hj => exact absurd hj (by decide)
  | _ + 6, _ => trivial
 ·refine ⟨?_, ?_, ?_, ?_, ?_, ?_, trivial⟩
  ·intro xq w5 hb5 hx K hK0
   have hK := fun v w' hb => hK0 v w' (.inl hb)
   clear hx hKc hK0
   obtain ⟨kq0, kq1, kq2, kq3, kq4, kq5, kq6⟩ := (Ha4.out.up hb5).c7
   simp only [frameOf, fill, setSlot, sg, Nat.reduceBEq, if_true, if_false, Nat.reduceAdd, Nat.reduceEqDiff, HSL.out] at hK ⊢
   go_wp2_with (fail)
   exact hK _ _ (Below.refl _ _) rfl
  ·intro xq w5 hb5 hx K hK0
   have hK := fun v w' hb => hK0 v w' (.inl hb)
   clear hx hKc hK0
   simp only [frameOf, fill, setSlot, sg, Nat.reduceBEq, if_true, if_false, Nat.reduceAdd, Nat.reduceEqDiff, HSL.out] at hK ⊢
   go_wp2_with (fail)
   exact hK _ _ (Below.refl _ _) rfl
  ·intro xq w5 hb5 hx K hK0
   have hK := fun v w' hb => hK0 v w' (.inl hb)
   have e31 : xq 31 = .slice A xs.length c := hx 1 (by rfl) (by rfl)
   clear hx hKc hK0
   simp only [frameOf, fill, setSlot, sg, Nat.reduceBEq, if_true, if_false, Nat.reduceAdd, Nat.reduceEqDiff, HSL.out] at hK ⊢
   simp only [e31] at hK ⊢
   clear e31
   go_wp2_with (go_at_call 116; refine (listed_any A c xs.length _).mono ?_; rintro e w2_ ⟨rfl, rfl⟩)
   exact hK _ _ ((Below.refl _ _).alloc (Nat.le_refl _) _) ⟨_, rfl, Holds.new _ _ _⟩
  ·intro xq w5 hb5 hx K hK0
   have hK := fun v w' hb => hK0 v w' (.inl hb)
   have e30 : xq 30 = .agg #[.int .i64 full, .int .i64 emp, .slice H hs.length q, .int .i64 err, .int .i64 miss, .slice G gs.length d, .func (.func 99) #[.agg #[.int .i64 full, .int .i64 emp, .slice H hs.length q]] #[]] := hx 0 (by rfl) (by rfl)
   obtain ⟨b32, e32, f32_0⟩ := hx 2 (by rfl) (by rfl)
   clear hx hKc hK0
   simp only [frameOf, fill, setSlot, sg, Nat.reduceBEq, if_true, if_false, Nat.reduceAdd, Nat.reduceEqDiff, HSL.out] at hK ⊢
   simp only [e30, e32] at hK ⊢
   clear e30 e32
   go_wp2_with (go_at_call 115; refine (agree_any full emp err miss H q hs _ _ 140 #[] #[.pointer (some ⟨b32, 0, none⟩)] (fun i => xs.contains (i : Int)) _ (HH4.out.up hb5) hl m0 m1 HT.out HN.out cf_listed (counts_listed b32 A c hs.length xs _ (f32_0.cell 0) (HX4.out.up hb5) hlx')).mono ?_; rw [← HRB.out]; rintro e w2_ ⟨rfl, hb_⟩)
   exact hK _ _ hb_ rfl
  ·intro xq w5 hb5 hx K hK0
   have hK := fun v w' hb => hK0 v w' (.inl hb)
   have e33 : xq 33 = .bool rb := hx 3 (by rfl) (by rfl)
   clear hx hKc hK0
   simp only [frameOf, fill, setSlot, sg, Nat.reduceBEq, if_true, if_false, Nat.reduceAdd, Nat.reduceEqDiff, HSL.out] at hK ⊢
   simp only [e33] at hK ⊢
   clear e33
   go_wp2_with (fail)
   exact hK _ _ (Below.refl _ _) rfl
  ·intro xq w5 hb5 hx K hK0
   have hK := fun v w' hb => hK0 v w' (.inl hb)
   clear hx hKc hK0
   simp only [frameOf, fill, setSlot, sg, Nat.reduceBEq, if_true, if_false, Nat.reduceAdd, Nat.reduceEqDiff, HSL.out] at hK ⊢
   go_wp2_with (fail)
   exact hK _ _ (Below.refl _ _) rfl
 ·intro xq w5 hb5 hx
  have e30 : xq 30 = .agg #[.int .i64 full, .int .i64 emp, .slice H hs.length q, .int .i64 err, .int .i64 miss, .slice G gs.length d, .func (.func 99) #[.agg #[.int .i64 full, .int .i64 emp, .slice H hs.length q]] #[]] := hx 0 (by decide)
  have e31 : xq 31 = .slice A xs.length c := hx 1 (by decide)
  obtain ⟨b32, e32, f32_0⟩ := hx 2 (by decide)
  have e33 : xq 33 = .bool rb := hx 3 (by decide)
  have e6 : xq 6 = .bool rb := hx 4 (by decide)
  have e7 : xq 7 = .int .i64 0 := hx 5 (by decide)
  clear hx
  simp only [frameOf, fill, setSlot, sg, Nat.reduceBEq, if_true, if_false, Nat.reduceAdd, Nat.reduceEqDiff, HSL.out]
  simp only [e30, e31, e32, e33, e6, e7]
  clear e30 e31 e32 e33 e6 e7
  refine hKc _ _ ?_
  go_wp2_with fail
  go_ret2
  exact ⟨rfl, HB4.out.trans (hb5.mono hs4)⟩


end Go.Proofs.Ytifffonoipapgaa
