
import Derived.Test.YtifffonoipapgaaVAA
import Derived.Test.YtifffonoipapgaaVAC
import Derived.Test.YtifffonoipapgaaVAO
import Derived.Test.YtifffonoipapgaaVBA
set_option linter.unusedSimpArgs false
set_option linter.unusedVariables false
namespace Go.Proofs.Ytifffonoipapgaa
open Go.RowKit
open Go.RowKit Go.Maps
theorem wpList_lookup_mix {P : Program} (w : World) {ops : Array Oper} {rest : List Oper} {o : Oper} {a : Act} {Q : Exit → Act → World → Prop}
  (hg : o.guard = none) (m x : Operand) (t : TypeId) (hop : o.op = Op.lookup t m x true)
  (k e : TypeId) (K : Maps.Keyed P k) (ht : P.underlying t = some (.map k e)) (hz : (zeroValue e).run P w = .ok (.agg #[.int .i64 0, .int .i64 0, .int .i64 0, .int .i64 0]) w) (b n : Nat) (D : DataW Unit)
  (hm : a.eval m = .map (some b)) (hown : w.ownsMap P k mixElem b n D) (key : Value) (kl : Lit) (hx : a.eval x = key) (hkey : keyOf P k key = some kl) (bv : Bool) (hb : Maps.has D kl = bv)
  (hK : ∀ p q r s : Int, D.atKey kl (mixD 0 0 0 0) = mixD p q r s → wpList P ops Q rest (a.put o.dst (.tuple #[.agg #[.int .i64 p, .int .i64 q, .int .i64 r, .int .i64 s], .bool bv])) w) :
  wpList P ops Q (o :: rest) a w :=
 wpList_lookup_own_ok w hg m x t hop k e K ht mixElem hz (mixD 0 0 0 0) [] rfl b n D hm hown key kl hx hkey (fun v ps hv => by
  obtain ⟨p, q, r, s, rfl, h⟩ := mixElem_inv hv
  rw [hb]
  exact hK p q r s h)
theorem zero_mix (w : World) : (zeroValue 28).run Try.prog w = .ok (.agg #[.int .i64 0, .int .i64 0, .int .i64 0, .int .i64 0]) w := by kernel_rfl
theorem key_up {k : Nat} (hk : k ≤ 9) : keyOf Try.prog 3 (.int .i64 (k : Int)) = some (keyAt (k + 1)) := by
 have h := key_at (j := k + 1) (by omega)
 rwa [show (((k + 1 : Nat) : Int) - 1) = (k : Int) from by omega] at h
theorem key_no : keyOf Try.prog 3 (.int .i64 (-1)) = some (keyAt 0) := key_at (j := 0) (by omega)
def canTo (b : Bx) (gs : List Gr) (k : Nat) : List Int := ((List.range k).filter (fun i => (shownBx b gs (some i)).isSome)).map Int.ofNat
theorem canTo_yes {b : Bx} {gs : List Gr} {k : Nat} (h : (shownBx b gs (some k)).isSome = true) : canTo b gs (k + 1) = canTo b gs k ++ [(k : Int)] := by
 simp [canTo, List.range_succ, h]
theorem canTo_no {b : Bx} {gs : List Gr} {k : Nat} (h : (shownBx b gs (some k)).isSome = false) : canTo b gs (k + 1) = canTo b gs k := by
 simp [canTo, List.range_succ, h]
theorem canTo_len (b : Bx) (gs : List Gr) (k : Nat) : (canTo b gs k).length ≤ k := by
 unfold canTo
 rw [List.length_map]
 exact Nat.le_trans (List.length_filter_le _ _) (by simp)
theorem canOf_yes {b : Bx} {gs : List Gr} (h : (shownBx b gs none).isSome = true) : canOf b gs = canTo b gs gs.length ++ [-1] := by simp [canOf, canTo, h]
theorem canOf_no {b : Bx} {gs : List Gr} (h : (shownBx b gs none).isSome = false) : canOf b gs = canTo b gs gs.length := by simp [canOf, canTo, h]
theorem has_at {b : Bx} {gs : List Gr} {k : Nat} (h : k < gs.length) : Maps.has (shownD b gs (gs.length + 1)) (keyAt (k + 1)) = (shownBx b gs (some k)).isSome := by
 rw [shownD_has]
 have : decide (k + 1 < gs.length + 1) = true := by simp; omega
 rw [this, Bool.true_and]; rfl
theorem has_no {b : Bx} {gs : List Gr} : Maps.has (shownD b gs (gs.length + 1)) (keyAt 0) = (shownBx b gs none).isSome := by
 rw [shownD_has]
 simp [ix]
def CanPost (miss : Int) (gs : List Gr) (hs : List Hf) (w : World) (e : Ending) (w' : World) : Prop := ∃ v, e = .returned v ∧ OwnInts w' w.heap.size v (canOf (boundsOf miss (fun _ => true) hs) gs) ∧ Below w.heap.size w w'
def CanRel (miss : Int) (gs : List Gr) (hs : List Hf) (w : World) (mb : Nat) (v4 v16 : Value) (wr : World) : Prop :=
 ∃ k : Nat, v16 = .int .i64 (k : Int) ∧ k ≤ gs.length ∧ OwnInts wr w.heap.size v4 (canTo (boundsOf miss (fun _ => true) hs) gs k) ∧ MapAt mb 10 (shownD (boundsOf miss (fun _ => true) hs) gs (gs.length + 1)) wr ∧ Below w.heap.size w wr
theorem MapAt.grown {mb n B m : Nat} {D : DataW Unit} {w w0 w' : World} {v : Value} {xs : List Value} (h : MapAt mb n D w) (hg : w.grownBy w' v.ownBlock) (hr : w0.ownsRow B 3 1 v m xs) (hk : w0.heap[mb]? = w.heap[mb]?) : MapAt mb n D w' := by
 refine World.ownsMap.kept h hg (fun e => ?_)
 obtain ⟨_, ⟨rfl, _⟩ | ⟨g, cap, cur, rfl, _, hgg, _⟩⟩ := hr
 ·cases e
 ·cases e
  obtain ⟨es, clock, hb, _⟩ := h
  rw [hgg] at hk
  rw [← hk] at hb
  cases hb
theorem ints_snoc {w : World} {B : Nat} {v : Value} {xs : List Int} {g : Int} (h : w.ownsRow B 3 1 v (xs.length + 1) (xs.map (Value.int .i64) ++ [.int .i64 g])) : OwnInts w B v (xs ++ [g]) := choose_own h (Nat.le_refl _)
theorem cell_one_new' {W : World} {u : Value} {t : TypeId} {B : Nat} (hB : B = W.heap.size) : ∀ (j : Nat) (x : Value), [u][j]? = some x → (W.alloc (.cells #[u] t)).cell? ((⟨B, 0, none⟩ : Addr).add j) = some x := by
 subst hB
 exact one_cell ((Holds.new W t #[u]).cell 0)
set_option maxRecDepth 100000 in
set_option maxHeartbeats 4000000 in
theorem can_any (err miss full empty : Int) (G A : Option Addr) (d c : Nat) (gs : List Gr) (hs : List Hf) (w : World) (hG : GradesAt w G gs) (hgl : gs.length ≤ 4) (hgd : gs.length ≤ d) (hgr : ∀ g ∈ gs, g.right = true) (hA : HandsAt w A hs) (hl : hs.length ≤ 6) (m0 : 0 ≤ miss) (m1 : miss ≤ 20) (ht : ∀ x ∈ hs, x.taken = true) (hn : ∀ x ∈ hs, x.enough = true) :
  Calls Try.prog 120 #[.agg #[.int .i64 full, .int .i64 empty, .slice A hs.length c, .int .i64 err, .int .i64 miss, .slice G gs.length d, .func (.func 99) #[.agg #[.int .i64 full, .int .i64 empty, .slice A hs.length c]] #[]]] w (CanPost miss gs hs w) := by
 obtain ⟨i0, hi, hz0, hz1, hz2⟩ := info_parts info_int
 have HG := Lib.hid hG
 have HA := Lib.hid hA
 have HT := Lib.hid ht
 have HN := Lib.hid hn
 have HR := Lib.hid hgr
 clear hG hA ht hn hgr
 go_enter Try.func120, Try.ntmps120
 go_wp2_with (go_at_call 121; refine (shown_any err miss full empty G A d c gs hs _ (HG.out.up zg) hgl hgd HR.out (HA.out.up zg) hl m0 m1 HT.out HN.out).mono ?_; rintro e w2 ⟨mb, rfl, hm2, hb2⟩; have k5 : w2.cell? ⟨w.heap.size, 5, none⟩ = some (.slice G gs.length d) := (Holds.up (zp1 : Holds _ w.heap.size 147 #[.int .i64 full, .int .i64 empty, .slice A hs.length c, .int .i64 err, .int .i64 miss, .slice G gs.length d, .func (.func 99) #[.agg #[.int .i64 full, .int .i64 empty, .slice A hs.length c]] #[]]) hb2).cell 5; have HM2 := Lib.hid hm2; have HB2 : Hid (Below w.heap.size w w2) := Below.trans zg (hb2.mono (by first | omega | (simp; done) | (simp; omega))); clear hm2 hb2)
 go_loopw [4, 16] (fun v4 v16 wr => CanRel miss gs hs w mb v4 v16 wr) (fun _ v16 _ => gs.length - (intOf v16).toNat)
 case atStart => exact ⟨0, rfl, Nat.zero_le _, ⟨rfl, .inl ⟨rfl, rfl⟩⟩, HM2.out, HB2.out⟩
 case round =>
  obtain ⟨k, rfl, hk, hown, hm, hB⟩ := hrel
  have hkl := canTo_len (boundsOf miss (fun _ => true) hs) gs k
  obtain ⟨A4, c4, rfl, _⟩ := ints_of_row hown
  have HO := Lib.hid hown
  have HM := Lib.hid hm
  have HB := Lib.hid hB
  have hSw := hB.size
  clear hown hm
  by_cases hlt : k < gs.length
  ·cases hq : (shownBx (boundsOf miss (fun _ => true) hs) gs (some k)).isSome with
   | true =>
    have HQ := Lib.hid hq
    have HH := Lib.hid ((has_at hlt).trans hq)
    clear hq
    go_wp2_with (first | (at_lookup; (refine wpList_lookup_mix _ rfl _ _ 166 rfl 3 28 (Maps.int_keyed und_int) und_map (zero_mix _) mb 10 _ rfl HM.out _ (keyAt (k + 1)) rfl (key_up (by omega)) true HH.out ?_); intro p q r s hat; clear hat) | (at_builtin; (refine wpList_append_own _ rfl _ _ 87 rfl w.heap.size 3 i0 (.int .i64 0) 1 8 und_ints hi hz0 hz1 hz2 rfl (by decide) _ _ _ rfl (HO.out.up zg) ⟨wr.heap.size + 1, 0, none⟩ 1 1 [.int .i64 (k : Int)] rfl rfl (cell_one_new' (by simp)) (by simp [Value.oneCell']) (by unfold maxLen; omega) (by omega) (by have := HB.out.size; simp; omega) ?_); intro v5 w5 hown5 hgrow5 _; obtain ⟨A5, c5, rfl⟩ := row_val hown5; have HO5 := Lib.hid (ints_snoc hown5); have HG5 := Lib.hid hgrow5; clear hown5 hgrow5))
    go_roundw
    case rel =>
     refine ⟨k + 1, by go_num, hlt, by rw [canTo_yes HQ.out]; exact HO5.out, ?_, ?_⟩
     ·exact MapAt.grown (HM.out.up zg) HG5.out (HO.out.up zg) rfl
     ·exact Below.grown zg HG5.out (by have := HB.out.size; simp; omega) (row_block HO.out)
    case measure => simp [intOf]; omega
   | false =>
    have HQ := Lib.hid hq
    have HH := Lib.hid ((has_at hlt).trans hq)
    clear hq
    go_wp2_with (at_lookup; (refine wpList_lookup_mix _ rfl _ _ 166 rfl 3 28 (Maps.int_keyed und_int) und_map (zero_mix _) mb 10 _ rfl HM.out _ (keyAt (k + 1)) rfl (key_up (by omega)) false HH.out ?_); intro p q r s hat; clear hat)
    go_roundw
    case rel =>
     refine ⟨k + 1, by go_num, hlt, by rw [canTo_no HQ.out]; exact HO.out.up zg, HM.out.up zg, zg⟩
    case measure => simp [intOf]; omega
  ·have hkl2 : k = gs.length := by omega
   subst hkl2
   cases hq : (shownBx (boundsOf miss (fun _ => true) hs) gs none).isSome with
   | true =>
    have HQ := Lib.hid hq
    have HH := Lib.hid (has_no.trans hq)
    clear hq
    go_wp2_with (first | (at_lookup; (refine wpList_lookup_mix _ rfl _ _ 166 rfl 3 28 (Maps.int_keyed und_int) und_map (zero_mix _) mb 10 _ rfl HM.out _ (keyAt 0) rfl (key_no) true HH.out ?_); intro p q r s hat; clear hat) | (at_builtin; (refine wpList_append_own _ rfl _ _ 87 rfl w.heap.size 3 i0 (.int .i64 0) 1 8 und_ints hi hz0 hz1 hz2 rfl (by decide) _ _ _ rfl (HO.out.up zg) ⟨wr.heap.size + 1, 0, none⟩ 1 1 [.int .i64 (-1)] rfl rfl (cell_one_new' (by simp)) (by simp [Value.oneCell']) (by unfold maxLen; omega) (by omega) (by have := HB.out.size; simp; omega) ?_); intro v5 w5 hown5 hgrow5 _; obtain ⟨A5, c5, rfl⟩ := row_val hown5; have HO5 := Lib.hid (ints_snoc hown5); have HG5 := Lib.hid hgrow5; clear hown5 hgrow5))
    go_ret
    exact ⟨_, rfl, by rw [canOf_yes HQ.out]; exact HO5.out, Below.grown zg HG5.out (by have := HB.out.size; simp; omega) (row_block HO.out)⟩
   | false =>
    have HQ := Lib.hid hq
    have HH := Lib.hid (has_no.trans hq)
    clear hq
    go_wp2_with (at_lookup; (refine wpList_lookup_mix _ rfl _ _ 166 rfl 3 28 (Maps.int_keyed und_int) und_map (zero_mix _) mb 10 _ rfl HM.out _ (keyAt 0) rfl (key_no) false HH.out ?_); intro p q r s hat; clear hat)
    go_ret
    exact ⟨_, rfl, by rw [canOf_no HQ.out]; exact HO.out.up zg, zg⟩
theorem ints_at {w : World} {B c : Nat} {A : Option Addr} {xs : List Int} (h : OwnInts w B (.slice A xs.length c) xs) : IntsAt w A xs := by
 obtain ⟨A', c', e, h'⟩ := ints_of_row h
 injection e with e1 _ _
 subst e1
 exact h'
def priceOf (gs : List Gr) (n : Int) : Int := if n = -1 then 0 else ((gs[n.toNat]?).map Gr.price).getD 0
theorem price_none (err miss : Int) (G : Option Addr) (d : Nat) (gs : List Gr) (w : World) :
  Calls Try.prog 122 #[.agg #[.int .i64 err, .int .i64 miss, .slice G gs.length d], .int .i64 (-1)] w fun e w' => e = .returned (.int .i64 (priceOf gs (-1))) ∧ Below w.heap.size w w' := by
 go_enter Try.func122, Try.ntmps122
 go_wp2_with fail
 go_ret
 exact ⟨rfl, zg⟩
theorem price_at (err miss : Int) (G : Option Addr) (d : Nat) (gs : List Gr) (i : Nat) (w : World) (hG : GradesAt w G gs) (hi : i < gs.length) (hl : gs.length ≤ 1000) :
  Calls Try.prog 122 #[.agg #[.int .i64 err, .int .i64 miss, .slice G gs.length d], .int .i64 (i : Int)] w fun e w' => e = .returned (.int .i64 (priceOf gs (i : Int))) ∧ Below w.heap.size w w' := by
 obtain ⟨B, o, rfl, h⟩ := hG (by omega)
 obtain ⟨_, _, _, _, h4⟩ := h i gs[i] (by simp [hi])
 have hBl : B < w.heap.size := World.block_lt_of_cell? w _ h4
 have hp : priceOf gs (i : Int) = gs[i].price := by
  unfold priceOf
  rw [if_neg (by omega)]
  simp [hi]
 have HP := Lib.hid hp
 have hne : ((i : Int) == -1) = false := by first | (simp; done) | (simp; omega)
 clear h hp
 go_enter Try.func122, Try.ntmps122
 go_wp2_with fail
 go_ret
 exact ⟨by rw [HP.out]; rfl, zg⟩
theorem price_any (err miss : Int) (G : Option Addr) (d : Nat) (gs : List Gr) (n : Int) (w : World) (hG : GradesAt w G gs) (hl : gs.length ≤ 1000) (hn : n = -1 ∨ (0 ≤ n ∧ n < gs.length)) :
  Calls Try.prog 122 #[.agg #[.int .i64 err, .int .i64 miss, .slice G gs.length d], .int .i64 n] w fun e w' => e = .returned (.int .i64 (priceOf gs n)) ∧ Below w.heap.size w w' := by
 rcases hn with rfl | ⟨h0, h1⟩
 ·exact price_none err miss G d gs w
 ·have h := price_at err miss G d gs n.toNat w hG (by omega) hl
  rwa [show ((n.toNat : Nat) : Int) = n from by omega] at h
def CanRes (miss : Int) (gs : List Gr) (hs : List Hf) (w : World) (e : Ending) (w' : World) : Prop := ∃ v, e = .returned (.tuple #[v, .int .i64 0]) ∧ OwnInts w' w.heap.size v (canOf (boundsOf miss (fun _ => true) hs) gs) ∧ Below w.heap.size w w'
set_option maxRecDepth 100000 in
set_option maxHeartbeats 2000000 in
theorem Can_ok (err miss full empty : Int) (G A : Option Addr) (d c : Nat) (gs : List Gr) (hs : List Hf) (w : World) (hG : GradesAt w G gs) (hgl : gs.length ≤ 1000) (hgd : gs.length ≤ d) (hA : HandsAt w A hs) (hl : hs.length ≤ 1000) (he : bothErr err miss gs full empty hs = 0) (hx : (boundsOf miss (fun _ => true) hs).empty = false) :
  Calls Try.prog 58 #[.agg #[.int .i64 err, .int .i64 miss, .slice G gs.length d], .agg #[.int .i64 full, .int .i64 empty, .slice A hs.length c]] w (CanRes miss gs hs w) := by
 have HA := Lib.hid hA
 have HG := Lib.hid hG
 clear hA hG
 obtain ⟨hg0, hc0⟩ := bothErr_zero he
 obtain ⟨hg4, r0, r1, m0, m1, hgr, _⟩ := gateErr_zero hg0
 obtain ⟨hl6, f0, f1, e0, e1, ht, hn⟩ := cartErr_zero hc0
 have HE := Lib.hid he
 have HX := Lib.hid hx
 have HT := Lib.hid ht
 have HN := Lib.hid hn
 have HR := Lib.hid hgr
 clear he hg0 hc0 ht hn hgr hx
 go_enter Try.func58, Try.ntmps58
 go_wp2_with (first | (go_at_call 107; refine (arriveFitting_ok err miss full empty G A d c gs hs _ (HG.out.up zg) hgl (HA.out.up zg) hl HE.out HX.out).mono ?_; rintro e w2 ⟨rfl, hb2⟩; have hB2 : Below w.heap.size w w2 := Below.trans zg (hb2.mono (by first | omega | (simp; done) | (simp; omega))); have hs2 := hb2.size; (try simp only [World.size_alloc] at hs2); clear hb2) | (go_at_call 120; refine (can_any err miss full empty G A d c gs hs _ (HG.out.up zg) hg4 hgd HR.out (HA.out.up zg) hl6 m0 m1 HT.out HN.out).mono ?_; rintro e w3 ⟨v3, rfl, ho3, hb3⟩; obtain ⟨A3, c3, e3⟩ := row_val ho3; have HO3 := Lib.hid ho3; subst e3; have hB3 : Below w.heap.size w w3 := Below.trans zg (hb3.mono (by first | omega | (simp; done) | (simp; omega))); have hs3 := hb3.size; clear ho3))
 go_ret2
 exact ⟨_, rfl, HO3.out.mono (by first | omega | (simp; omega)), hB3⟩
def sureOf (l : List Int) : Int := if l.length = 1 then l.headD 0 else 0
def sureErr (l : List Int) : Int := if l.length = 1 then 0 else 6
set_option maxRecDepth 100000 in
set_option maxHeartbeats 2000000 in
theorem Sure_ok (err miss full empty : Int) (G A : Option Addr) (d c : Nat) (gs : List Gr) (hs : List Hf) (w : World) (hG : GradesAt w G gs) (hgl : gs.length ≤ 1000) (hgd : gs.length ≤ d) (hA : HandsAt w A hs) (hl : hs.length ≤ 1000) (he : bothErr err miss gs full empty hs = 0) (hx : (boundsOf miss (fun _ => true) hs).empty = false) :
  Calls Try.prog 59 #[.agg #[.int .i64 err, .int .i64 miss, .slice G gs.length d], .agg #[.int .i64 full, .int .i64 empty, .slice A hs.length c]] w fun e w' => e = .returned (.tuple #[.int .i64 (sureOf (canOf (boundsOf miss (fun _ => true) hs) gs)), .int .i64 (sureErr (canOf (boundsOf miss (fun _ => true) hs) gs))]) ∧ Below w.heap.size w w' := by
 have HA := Lib.hid hA
 have HG := Lib.hid hG
 clear hA hG
 obtain ⟨hg0, hc0⟩ := bothErr_zero he
 obtain ⟨hg4, r0, r1, m0, m1, hgr, _⟩ := gateErr_zero hg0
 obtain ⟨hl6, f0, f1, e0, e1, ht, hn⟩ := cartErr_zero hc0
 have HE := Lib.hid he
 have HX := Lib.hid hx
 have HT := Lib.hid ht
 have HN := Lib.hid hn
 have HR := Lib.hid hgr
 clear he hg0 hc0 ht hn hgr hx
 go_enter Try.func59, Try.ntmps59
 cases hl1 : ((canOf (boundsOf miss (fun _ => true) hs) gs).length : Int) != 1 with
 | true =>
  have hle : ¬ (canOf (boundsOf miss (fun _ => true) hs) gs).length = 1 := by simp at hl1; omega
  have HL := Lib.hid hle
  clear hle
  go_wp2_with (first | (go_at_call 107; refine (arriveFitting_ok err miss full empty G A d c gs hs _ (HG.out.up zg) hgl (HA.out.up zg) hl HE.out HX.out).mono ?_; rintro e w2 ⟨rfl, hb2⟩; have hB2 : Below w.heap.size w w2 := Below.trans zg (hb2.mono (by first | omega | (simp; done) | (simp; omega))); have hs2 := hb2.size; (try simp only [World.size_alloc] at hs2); clear hb2) | (go_at_call 120; refine (can_any err miss full empty G A d c gs hs _ (HG.out.up zg) hg4 hgd HR.out (HA.out.up zg) hl6 m0 m1 HT.out HN.out).mono ?_; rintro e w3 ⟨v3, rfl, ho3, hb3⟩; obtain ⟨A3, c3, e3⟩ := row_val ho3; have HO3 := Lib.hid ho3; subst e3; have hB3 : Below w.heap.size w w3 := Below.trans zg (hb3.mono (by first | omega | (simp; done) | (simp; omega))); have hs3 := hb3.size; clear ho3))
  go_ret2
  exact ⟨by simp only [sureOf, sureErr, if_neg HL.out]; rfl, hB3⟩
 | false =>
  have hle : (canOf (boundsOf miss (fun _ => true) hs) gs).length = 1 := by simp at hl1; omega
  obtain ⟨y, hy⟩ := List.length_eq_one_iff.1 hle
  have HY := Lib.hid hy
  have h0l : 0 < (canOf (boundsOf miss (fun _ => true) hs) gs).length := by omega
  have HL := Lib.hid hle
  clear hle hy
  go_wp2_with (first | (go_at_call 107; refine (arriveFitting_ok err miss full empty G A d c gs hs _ (HG.out.up zg) hgl (HA.out.up zg) hl HE.out HX.out).mono ?_; rintro e w2 ⟨rfl, hb2⟩; have hB2 : Below w.heap.size w w2 := Below.trans zg (hb2.mono (by first | omega | (simp; done) | (simp; omega))); have hs2 := hb2.size; (try simp only [World.size_alloc] at hs2); clear hb2) | (go_at_call 120; refine (can_any err miss full empty G A d c gs hs _ (HG.out.up zg) hg4 hgd HR.out (HA.out.up zg) hl6 m0 m1 HT.out HN.out).mono ?_; rintro e w3 ⟨v3, rfl, ho3, hb3⟩; obtain ⟨A3, c3, e3⟩ := row_val ho3; have HO3 := Lib.hid ho3; subst e3; have hB3 : Below w.heap.size w w3 := Below.trans zg (hb3.mono (by first | omega | (simp; done) | (simp; omega))); have hs3 := hb3.size; clear ho3; obtain ⟨B3, o3, rfl, hcl3⟩ := (show IntsAt w3 A3 (canOf (boundsOf miss (fun _ => true) hs) gs) from ints_at HO3.out) h0l; have hc3 : w3.cell? ⟨B3, o3, none⟩ = some (.int .i64 y) := (by have := hcl3 0 y (by rw [HY.out]; rfl); simpa using this); clear hcl3))
  go_ret2
  exact ⟨by simp only [sureOf, sureErr, if_pos HL.out]; rw [HY.out]; rfl, hB3⟩
end Go.Proofs.Ytifffonoipapgaa
