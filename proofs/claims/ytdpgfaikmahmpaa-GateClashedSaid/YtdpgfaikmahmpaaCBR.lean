import Derived.Shelf.Spec.SlicesInsert
import Derived.Deep.MidRow
import Derived.Deep.CutRange
import Derived.Test.YtdpgfaikmahmpaaCAA
import Derived.Test.YtdpgfaikmahmpaaCAC
import Derived.Test.YtdpgfaikmahmpaaCAG
import Derived.Test.YtdpgfaikmahmpaaCAH
import Derived.Test.YtdpgfaikmahmpaaCAM
import Derived.Test.YtdpgfaikmahmpaaCAN
import Derived.Test.YtdpgfaikmahmpaaCAO
import Derived.Test.YtdpgfaikmahmpaaCAU
import Derived.Test.YtdpgfaikmahmpaaCAV
import Derived.Test.YtdpgfaikmahmpaaCAX
import Derived.Test.YtdpgfaikmahmpaaCBB
import Derived.Test.YtdpgfaikmahmpaaCBC
import Derived.Test.YtdpgfaikmahmpaaCBD
import Derived.Test.YtdpgfaikmahmpaaCBF
import Derived.Test.YtdpgfaikmahmpaaCBG
import Derived.Test.YtdpgfaikmahmpaaCBH
import Derived.Test.YtdpgfaikmahmpaaCBQ
set_option linter.unusedSimpArgs false
set_option linter.unusedVariables false
namespace Go.Proofs.Ytdpgfaikmahmpaa
open Go.RowKit
theorem bytes_of {w : World} {a : Option Addr} {len cap : Nat} {zs : List Int}
  (h : (a = none ∧ len = 0 ∧ cap = 0 ∧ zs = []) ∨ ∃ x, a = some x ∧ len ≤ cap ∧ cap ≤ maxLen ∧ zs.length = cap ∧ (∀ i, i < zs.length → w.cell? (x.add i) = some (.int .u8 (zs.getD i 0))) ∧ ∀ n ∈ zs, (Lit.int .u8 n).wf = true) : BytesAt w a len ∧ len ≤ 9223372036854775807 := by
 rcases h with ⟨rfl, rfl, rfl, rfl⟩ | ⟨x, rfl, hl, hm, hz, hc, _⟩
 ·exact ⟨fun h => absurd h (Nat.lt_irrefl 0), by decide⟩
 ·refine ⟨fun hp => ?_, by unfold maxLen at hm; omega⟩
  have h0 := hc 0 (by omega)
  obtain ⟨B, o, s⟩ := x
  have hs : s = none := by
   cases s with
   | none => rfl
   | some s =>
    simp only [Addr.add, if_true, World.cell?] at h0
    split at h0 <;> simp at h0
  subst hs
  refine ⟨B, o, rfl, fun k hk => ⟨zs.getD k 0, ?_⟩⟩
  have hk' := hc k (by omega)
  rcases Nat.eq_zero_or_pos k with rfl | hkp
  ·simpa [Addr.add] using hk'
  ·simpa [Addr.add, Nat.ne_of_gt hkp] using hk'

set_option maxRecDepth 100000 in
set_option maxHeartbeats 4000000 in
theorem Mixture_ok (err miss full empty : Int) (G A : Option Addr) (d c : Nat) (gs : List Gr) (hs : List Hf) (w : World) (hG : GradesAt w G gs) (hgl : gs.length ≤ 1000) (hA : HandsAt w A hs) (hl : hs.length ≤ 1000) (he : bothErr err miss gs full empty hs = 0) (hx : (boundsOf miss (fun _ => true) hs).empty = false) :
  Calls Try.prog 44 #[.agg #[.int .i64 err, .int .i64 miss, .slice G gs.length d], .agg #[.int .i64 full, .int .i64 empty, .slice A hs.length c]] w fun e w' => e = .returned (.tuple #[.agg #[.int .i64 ((boundsOf miss (fun _ => true) hs).l0 + (boundsOf miss (fun _ => true) hs).t0), .int .i64 ((boundsOf miss (fun _ => true) hs).l1 + (boundsOf miss (fun _ => true) hs).t1), .int .i64 ((boundsOf miss (fun _ => true) hs).l2 + (boundsOf miss (fun _ => true) hs).t2), .int .i64 ((boundsOf miss (fun _ => true) hs).l3 + (boundsOf miss (fun _ => true) hs).t3)], .int .i64 0]) ∧ Below w.heap.size w w' := by
 have HA := Lib.hid hA
 have HG := Lib.hid hG
 have HE := Lib.hid he
 have HX := Lib.hid hx
 obtain ⟨b, hbx⟩ : ∃ z, (boundsOf miss (fun _ => true) hs) = z := ⟨_, rfl⟩
 have hbo : b.ok := hbx ▸ bounds_ok miss _ hs
 rw [hbx]
 have HBO := Lib.hid hbo
 have HBX := Lib.hid hbx
 clear hA hG he hx hbo hbx
 go_enter Try.func44, Try.ntmps44
 go_wp2_with fail
 refine (arriveFitting_ok err miss full empty G A d c gs hs _ (HG.out.up zg) hgl (HA.out.up zg) hl HE.out HX.out).mono ?_
 rw [HBX.out]
 rintro e w2 ⟨rfl, hb2⟩
 have Hr2 := Lib.hid (Holds.up (zp4 : Holds _ (w.heap.size + 1 + 1) 28 #[.int .i64 0, .int .i64 0, .int .i64 0, .int .i64 0]) hb2)
 have HB2 : Hid (Below w.heap.size w w2) := Lib.hid (Below.trans zg (hb2.mono (by first | omega | (simp; done) | (simp; omega))))
 have lr := Hr2.out.lt
 clear hb2
 go_wp2_with fail
 refine (mixture_any b HBO.out _).mono ?_
 rintro e w3 ⟨rfl, hb3⟩
 have Hr3 := Lib.hid (Holds.up (by have h := Hr2.out; exact zp4 : Holds _ (w.heap.size + 1 + 1) 28 #[.int .i64 0, .int .i64 0, .int .i64 0, .int .i64 0]) hb3)
 have HB3 : Hid (Below w.heap.size w w3) := Lib.hid (HB2.out.trans (Below.trans zg (hb3.mono (by have := HB2.out.size; simp; omega))))
 obtain ⟨v0, v1, v2, v3⟩ := Hr3.out.c4
 obtain ⟨z0, z1, z2, z3⟩ := Hr3.out.f4
 clear hb3
 go_wp2_with fail
 exact ret_cell2 (t := 28) rfl rfl rfl (by have h := Hr3.out; exact zp7 : Holds _ (w.heap.size + 1 + 1) 28 #[.int .i64 (b.l0 + b.t0), .int .i64 (b.l1 + b.t1), .int .i64 (b.l2 + b.t2), .int .i64 (b.l3 + b.t3)]) Try.underlying28 rfl (by kernel_rfl) rfl ⟨rfl, HB3.out.trans zg⟩



open Go.RowKit Go.Maps
def RowIn (w : World) (a : Option Addr) (len cap : Nat) (zs : List Int) : Prop :=
 (a = none ∧ len = 0 ∧ cap = 0 ∧ zs = []) ∨ ∃ x, a = some x ∧ len ≤ cap ∧ cap ≤ maxLen ∧ zs.length = cap ∧ (∀ i, i < zs.length → w.cell? (x.add i) = some (.int .u8 (zs.getD i 0))) ∧ ∀ n ∈ zs, (Lit.int .u8 n).wf = true

theorem MadeOk.snoc {err miss full emp m0 m1 m2 m3 : Int} {gs : List Gr} {hs : List Hf} (h : MadeOk err miss full emp m0 m1 m2 m3 gs hs) {x : Hf} (hx : TakenOk miss m0 m1 m2 m3 x) : MadeOk err miss full emp m0 m1 m2 m3 gs (hs ++ [x]) :=
 { h with
  taken := by
   intro y hy
   rcases List.mem_append.1 hy with hy | hy
   ·exact h.taken y hy
   ·rw [List.mem_singleton] at hy; subst hy; exact hx }





theorem HandsAt.pre {w : World} {A : Option Addr} {xs ys : List Hf} (h : HandsAt w A (xs ++ ys)) : HandsAt w A xs := fun hn => by
 obtain ⟨B, o, e, hc⟩ := h (by rw [List.length_append]; omega)
 exact ⟨B, o, e, fun k x hx => hc k x (by rw [List.getElem?_append_left (List.getElem?_eq_some_iff.1 hx).1]; exact hx)⟩
theorem Holds.other {W w : World} {B mb : Nat} {t u : TypeId} {cs ds : Array Value} (h : Holds W B t cs) (s : Holds W mb u ds) (g : W.grownBy w (some mb)) (hne : t ≠ u) : Holds w B t cs :=
 h.grown g (fun e => by subst e; have h1 := h.symm.trans s; simp at h1; exact hne h1.2)
section
variable {P : Program} {ops : Array Oper} {Q : Exit → Act → World → Prop}
end
section
variable {P : Program} {ops : Array Oper} {Q : Exit → Act → World → Prop}
end
structure But (n : Nat) (L : List Nat) (w w' : World) : Prop where
 os : w'.os = w.os
 tape : w'.tape = w.tape
 output : w'.output = w.output
 size : w.heap.size ≤ w'.heap.size
 low : ∀ k, k < n → w'.heap[k]? = w.heap[k]?
 block : ∀ k, k < w.heap.size → k ∉ L → (∀ cs f, w.heap[k]? ≠ some (.cells cs 30 f)) → w'.heap[k]? = w.heap[k]?
theorem But.refl (n : Nat) (L : List Nat) (w : World) : But n L w w := ⟨rfl, rfl, rfl, Nat.le_refl _, fun _ _ => rfl, fun _ _ _ _ => rfl⟩
theorem But.up {n : Nat} {L : List Nat} {w w' w'' : World} (h : But n L w w') (hn : n ≤ w.heap.size) (hb : Below w'.heap.size w' w'') : But n L w w'' :=
  ⟨hb.os.trans h.os, hb.tape.trans h.tape, hb.output.trans h.output, Nat.le_trans h.size hb.size, fun k hk => (hb.block k (Nat.lt_of_lt_of_le hk (Nat.le_trans hn h.size))).trans (h.low k hk),
   fun k hk hL hne => (hb.block k (Nat.lt_of_lt_of_le hk h.size)).trans (h.block k hk hL hne)⟩
theorem But.listed {n : Nat} {L : List Nat} {w w' w'' : World} {b : Nat} (h : But n L w w') (hn : n ≤ w.heap.size) (hg : w'.grownBy w'' (some b)) (hL : b ∈ L) (hb : n ≤ b) : But n L w w'' :=
  ⟨hg.os.trans h.os, hg.tape.trans h.tape, hg.output.trans h.output, Nat.le_trans h.size hg.size, fun k hk => (hg.block k (Nat.lt_of_lt_of_le hk (Nat.le_trans hn h.size)) (fun e => by cases e; omega)).trans (h.low k hk),
   fun k hk hL' hne => (hg.block k (Nat.lt_of_lt_of_le hk h.size) (fun e => by cases e; exact hL' hL)).trans (h.block k hk hL' hne)⟩
theorem But.row {n : Nat} {L : List Nat} {w w' w'' : World} {v : Value} {B m : Nat} {xs : List Value} (h : But n L w w') (hn : n ≤ w.heap.size) (hr : w'.ownsRow B 30 5 v m xs) (hB : n ≤ B) (hg : w'.grownBy w'' v.ownBlock) : But n L w w'' := by
 have hk : ∀ k, v.ownBlock = some k → n ≤ k ∧ ∃ cur, w'.heap[k]? = some (.cells cur 30 (0, 0)) := by
  obtain ⟨_, ⟨rfl, _⟩ | ⟨g, cap, cur, rfl, hBg, hgg, _⟩⟩ := hr
  ·intro k hk; cases hk
  ·intro k hk; cases hk; exact ⟨Nat.le_trans hB hBg, cur, hgg⟩
 refine ⟨hg.os.trans h.os, hg.tape.trans h.tape, hg.output.trans h.output, Nat.le_trans h.size hg.size, fun k hkn => ?_, fun k hkw hL hne => ?_⟩
 ·refine (hg.block k (Nat.lt_of_lt_of_le hkn (Nat.le_trans hn h.size)) (fun e => ?_)).trans (h.low k hkn)
  have := (hk k e.symm).1
  omega
 ·have e := h.block k hkw hL hne
  refine (hg.block k (Nat.lt_of_lt_of_le hkw h.size) (fun e' => ?_)).trans e
  obtain ⟨_, cur, hc⟩ := hk k e'.symm
  exact hne cur (0, 0) (e ▸ hc)
theorem But.trans {n : Nat} {L : List Nat} {w w' w'' : World} (h : But n L w w') (hn : n ≤ w.heap.size) (h2 : But n L w' w'') : But n L w w'' :=
  ⟨h2.os.trans h.os, h2.tape.trans h.tape, h2.output.trans h.output, Nat.le_trans h.size h2.size, fun k hk => (h2.low k hk).trans (h.low k hk),
   fun k hk hL hne => by
    have e := h.block k hk hL hne
    exact (h2.block k (Nat.lt_of_lt_of_le hk h.size) hL (fun cs f => by rw [e]; exact hne cs f)).trans e⟩
theorem But.below {n : Nat} {L : List Nat} {w w' : World} (h : But n L w w') : Below n w w' := ⟨h.os, h.tape, h.output, h.size, h.low⟩
theorem Holds.but {n : Nat} {L : List Nat} {w w' : World} {B : Nat} {t : TypeId} {cs : Array Value} (h : Holds w B t cs) (b : But n L w w') (hL : B ∉ L) (ht : t ≠ 30) : Holds w' B t cs :=
 (b.block B h.lt hL (fun cs' f e => by have := h.symm.trans e; simp at this; first | exact ht this.2 | exact ht this.2.1)).trans h
theorem OwnGrades.but {n : Nat} {L : List Nat} {w w' : World} {B : Nat} {v : Value} {gs : List Gr} (h : OwnGrades w B v gs) (b : But n L w w') (hL : ∀ l ∈ L, ∀ cs f, w.heap[l]? ≠ some (.cells cs 128 f)) : OwnGrades w' B v gs := by
 obtain ⟨hl, h | ⟨g, cap, cur, ev, hB, hg, r⟩⟩ := h
 ·exact ⟨hl, .inl h⟩
 ·exact ⟨hl, .inr ⟨g, cap, cur, ev, hB, (b.block g (Array.getElem?_eq_some_iff.1 hg).1 (fun hm => hL g hm _ _ hg) (fun cs' f e => by have := hg.symm.trans e; simp at this)).trans hg, r⟩⟩
theorem row_other_block {w w' : World} {B m b : Nat} {v : Value} {xs : List Value} {t : TypeId} {cs : Array Value} (h : w.ownsRow B 30 5 v m xs) (s : Holds w b t cs) (ht : t ≠ 30) (g : w.grownBy w' (some b)) : w'.ownsRow B 30 5 v m xs := by
 obtain ⟨hl, h | ⟨k, cap, cur, ev, hB, hg, r⟩⟩ := h
 ·exact ⟨hl, .inl h⟩
 ·exact ⟨hl, .inr ⟨k, cap, cur, ev, hB, (g.block k (Array.getElem?_eq_some_iff.1 hg).1 (fun e => by cases e; have := s.symm.trans hg; simp at this; first | exact ht this.2 | exact ht this.2.1)).trans hg, r⟩⟩
theorem Holds.row_turned {w w' : World} {B m b : Nat} {v : Value} {xs : List Value} {t : TypeId} {cs : Array Value} (s : Holds w b t cs) (h : w.ownsRow B 30 5 v m xs) (ht : t ≠ 30) (g : w.grownBy w' v.ownBlock) : Holds w' b t cs := by
 refine (g.block b s.lt (fun e => ?_)).trans s
 obtain ⟨_, ⟨rfl, _⟩ | ⟨k, cap, cur, rfl, _, hg, _⟩⟩ := h
 ·cases e
 ·cases e; have := s.symm.trans hg; simp at this; first | exact ht this.2 | exact ht this.2.1
theorem enough_parts {h : Hf} (t : h.enough = true) : 10 ≤ h.g0 + h.g1 + h.g2 + h.g3 ∧ h.g0 + h.g1 + h.g2 + h.g3 ≤ 200 := by
 have t' := t
 simp only [Hf.enough, within, Hf.sum, Bool.and_eq_true, decide_eq_true_eq] at t'
 exact ⟨of_decide_eq_true t'.1, of_decide_eq_true t'.2⟩
open Go.RowKit Go.Maps
def seenElem : Value → Option (DataW Unit × List MemPlace)
 | .bool c => some (.lit (.bool c), [])
 | _ => none
theorem seenElem_inv {v : Value} {c : Bool} {ps : List MemPlace} (h : seenElem v = some (.lit (.bool c), ps)) : v = .bool c := by
 unfold seenElem at h
 split at h
 ·simp at h; rw [h.1]
 ·cases h
theorem und_seen : Try.prog.underlying 181 = some (.map 3 4) := Try.underlying181
theorem zero_seen (w : World) : (zeroValue 4).run Try.prog w = .ok (.bool false) w := by kernel_rfl
def Sees (xs : List Int) (D : DataW Unit) : Prop := IsMap D ∧ ∀ n : Int, D.atKey (.int .i64 n) (.lit (.bool false)) = .lit (.bool (decide (n ∈ xs)))
theorem sees_nil : Sees [] (.map []) := ⟨isMap_empty, fun n => by rw [decide_eq_false (List.not_mem_nil)]; rfl⟩
theorem Sees.put {xs : List Int} {D : DataW Unit} (h : Sees xs D) (x : Int) : Sees (xs ++ [x]) (D.put (.int .i64 x) (.lit (.bool true))) := by
 refine ⟨h.1.put _ _, fun n => ?_⟩
 by_cases e : n = x
 ·subst e
  rw [atKey_put_same h.1 (by simp [WideAt.IsKeyLit])]
  simp
 ·rw [atKey_put_other (by intro e'; simp at e'; exact e e'), h.2 n]
  simp [e]
def twice (xs : List Int) : Bool := !decide xs.Nodup
def TwiceRel (xs : List Int) (w : World) (v9 : Value) (wr : World) : Prop :=
 ∃ (k : Nat) (D : DataW Unit), v9 = .int .i64 (k : Int) ∧ k ≤ xs.length ∧ Hid (xs.take k).Nodup ∧ Hid (Sees (xs.take k) D) ∧ Hid (wr.ownsMap Try.prog 3 seenElem w.heap.size k D) ∧ Below w.heap.size w wr
set_option maxRecDepth 100000 in
set_option maxHeartbeats 4000000 in
theorem hasTwice_any (A : Option Addr) (c : Nat) (xs : List Int) (w : World) (hA : IntsAt w A xs) (hl : xs.length ≤ 1000000) (hw : ∀ x ∈ xs, (Lit.int .i64 x).wf = true) :
  Calls Try.prog 114 #[.slice A xs.length c] w fun e w' => e = .returned (.bool (twice xs)) ∧ Below w.heap.size w w' := by
 have HA := Lib.hid hA
 have HW := Lib.hid hw
 clear hA hw
 have hmm : ∀ (t : TypeId) (w : World), (Instr.makeMap t none).run Try.prog w = .ok (.map (some w.heap.size)) (w.alloc (.map #[] 0)) := fun _ _ => rfl
 go_enter Try.func114, Try.ntmps114
 go_wp2_with fail
 go_loopw [9] (fun v9 wr => TwiceRel xs w v9 wr) (fun v9 _ => xs.length - (intOf v9).toNat)
 case atStart => exact ⟨0, .map [], rfl, Nat.zero_le _, Lib.hid (by simp), Lib.hid sees_nil, Lib.hid (World.ownsMap_made w _ _ _), zg⟩
 case round =>
  obtain ⟨k, D, rfl, hk, hnd, hse, hown, hB⟩ := hrel
  have HB := Lib.hid hB
  have hsz := hB.size
  clear hB
  by_cases hlt : k < xs.length
  ·obtain ⟨B, o, rfl, hcell⟩ := (HA.out.up HB.out) (by omega)
   have c0 := hcell k _ (List.getElem?_eq_getElem hlt)
   clear hcell
   obtain ⟨x, hx⟩ : ∃ z, z = xs[k] := ⟨_, rfl⟩
   rw [← hx] at c0
   have hwf : (Lit.int .i64 x).wf = true := HW.out x (hx ▸ List.getElem_mem hlt)
   have hkey : keyOf Try.prog 3 (.int .i64 x) = some (.int .i64 x) := keyOf_int_mk und_int hwf
   have htk : xs.take (k + 1) = xs.take k ++ [x] := by rw [List.take_add_one, List.getElem?_eq_getElem hlt, ← hx]; rfl
   obtain ⟨v, ps, hrun, hv⟩ := hown.out.lookup (int_keyed und_int) und_seen (zero_seen wr) (zd := .lit (.bool false)) (zp := []) rfl hkey
   rw [hse.out.2 x] at hv
   have hv := seenElem_inv hv
   subst hv
   have HT := Lib.hid htk
   have HX := Lib.hid hx
   clear hx htk
   cases hm : decide (x ∈ xs.take k) with
   | true =>
    rw [hm] at hrun
    have hf : twice xs = true := by
     unfold twice
     rw [decide_eq_false]; rfl
     intro hn
     have hn2 : (xs.take (k + 1)).Nodup := hn.sublist (List.take_sublist _ _)
     rw [HT.out, List.nodup_append] at hn2
     exact hn2.2.2 x (of_decide_eq_true hm) x (List.mem_singleton.2 rfl) rfl
    have HF := Lib.hid hf
    clear hm hf
    go_wp2_with fail
    go_ret
    exact ⟨by rw [HF.out]; rfl, HB.out⟩
   | false =>
    rw [hm] at hrun
    have hn2 : (xs.take (k + 1)).Nodup := by
     rw [HT.out, List.nodup_append]
     refine ⟨hnd.out, by simp, fun a ha b hb => ?_⟩
     rw [List.mem_singleton] at hb
     subst hb
     exact fun e => of_decide_eq_false hm (e ▸ ha)
    have HN := Lib.hid hn2
    clear hm hn2
    go_wp2_with (first | (at_mapUpdate; refine wpList_mapUpdate_own _ rfl _ _ _ 181 rfl 3 4 (int_keyed und_int) und_seen seenElem w.heap.size k D rfl hown.out (by unfold maxLen; omega) _ _ (.int .i64 x) rfl rfl hkey (.lit (.bool true)) [] rfl ?_; intro w3 hown3 hgrow3))
    go_roundw
    case rel => exact ⟨k + 1, _, by go_num, hlt, HN, Lib.hid (HT.out ▸ hse.out.put x), Lib.hid hown3, HB.out.grown hgrow3 hsz (fun q hq => by cases hq; exact Nat.le_refl _)⟩
    case measure => simp [intOf]; omega
  ·have hkl : k = xs.length := by omega
   have hf : twice xs = false := by
    have hn := hnd.out
    rw [hkl, List.take_length] at hn
    unfold twice
    rw [decide_eq_true hn]; rfl
   have HF := Lib.hid hf
   clear hf
   go_wp2_with fail
   go_ret
   exact ⟨by rw [HF.out]; rfl, HB.out⟩
end Go.Proofs.Ytdpgfaikmahmpaa
