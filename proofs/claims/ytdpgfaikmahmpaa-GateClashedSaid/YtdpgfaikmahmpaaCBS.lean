import Derived.Laws.AppendOwnNone
import Derived.Test.YtdpgfaikmahmpaaCAA
import Derived.Test.YtdpgfaikmahmpaaCAC
import Derived.Test.YtdpgfaikmahmpaaCBR
set_option linter.unusedSimpArgs false
set_option linter.unusedVariables false
namespace Go.Proofs.Ytdpgfaikmahmpaa
open Go.RowKit
theorem wf_small {x : Int} {n : Nat} (h : within x 0 ((n : Int) - 1) = true) (hn : n ≤ 1000) : (Lit.int .i64 x).wf = true := by
 simp only [within, Bool.and_eq_true, decide_eq_true_eq] at h
 have h1 : IntKind.min .i64 = -9223372036854775808 := by decide
 have h2 : IntKind.max .i64 = 9223372036854775807 := by decide
 simp only [Lit.wf, h1, h2, Bool.and_eq_true, decide_eq_true_eq]
 omega
theorem cf_has (args : Array Value) (w : World) : (callFunc 99 args).run Try.prog w = .ok (.enter 99 args) w := by kernel_rfl
set_option maxRecDepth 100000 in
set_option maxHeartbeats 2000000 in
theorem everyHas_any (full emp : Int) (H : Option Addr) (n q : Nat) (hn : n ≤ 1000) (A : Option Addr) (c : Nat) (xs : List Int) (w : World) (hA : IntsAt w A xs) (hl : xs.length ≤ 1000) :
  Calls Try.prog 113 #[.slice A xs.length c, .func (.func 99) #[.agg #[.int .i64 full, .int .i64 emp, .slice H n q]] #[]] w fun e w' => e = .returned (.bool (xs.all (fun x => within x 0 ((n : Int) - 1)))) ∧ Below w.heap.size w w' := by
 obtain ⟨p, hp⟩ : ∃ p : Int → Bool, p = fun x => within x 0 ((n : Int) - 1) := ⟨_, rfl⟩
 have hF : ∀ (x : Int) (w : World), Calls Try.prog 99 #[.agg #[.int .i64 full, .int .i64 emp, .slice H n q], .int .i64 x] w fun e w' => e = .returned (.bool (p x)) ∧ Below w.heap.size w w' := fun x w => by rw [hp]; exact hasHandful_any full emp H n q x w hn
 rw [← hp]
 have HF := Lib.hid hF
 have HA := Lib.hid hA
 have hcf := cf_has
 clear hF hA hp
 go_enter Try.func113, Try.ntmps113
 go_wp2_with fail
 go_loopw [9] (fun v9 wr => ∃ k : Nat, k ≤ xs.length ∧ v9 = .int .i64 k ∧ Hid (xs.all p = (xs.drop k).all p) ∧ Below w.heap.size w wr) (fun v9 _ => xs.length - (intOf v9).toNat)
 case atStart => exact ⟨0, Nat.zero_le _, rfl, rfl, Below.refl _ _⟩
 case round =>
  obtain ⟨k, hk, rfl, hp, hB⟩ := hrel
  by_cases hlt : k < xs.length
  ·have hx : xs[k]? = some xs[k] := List.getElem?_eq_getElem hlt
   obtain ⟨B, o, rfl, hc⟩ := (HA.out.up hB) (by omega)
   have c0 := hc k _ hx
   clear hc
   have HX := Lib.hid hx
   clear hx
   have hS := hB.size
   cases hq : p xs[k] with
   | true =>
    go_wp2_with ((with_reducible refine Calls.mono (HF.out _ _) ?_); rintro e w2 ⟨rfl, hb2⟩; have hB2 : Below w.heap.size w w2 := Below.trans zg (hb2.mono (by first | omega | (simp; omega))))
    go_roundw
    case rel => exact ⟨k + 1, hlt, by go_num, by rw [hp.out, List.drop_eq_getElem_cons hlt, List.all_cons, hq, Bool.true_and]; exact rfl, hB2⟩
    case measure => simp [intOf]; omega
   | false =>
    go_wp2_with ((with_reducible refine Calls.mono (HF.out _ _) ?_); rintro e w2 ⟨rfl, hb2⟩; have hB2 : Below w.heap.size w w2 := Below.trans zg (hb2.mono (by first | omega | (simp; omega))))
    go_ret
    have hfin : xs.all p = false := by rw [hp.out, List.drop_eq_getElem_cons hlt, List.all_cons, hq, Bool.false_and]
    exact ⟨by rw [hfin]; rfl, hB2⟩
  ·have hkl : k = xs.length := by omega
   go_wp2_with fail
   go_ret
   have hfin : xs.all p = true := by rw [hp.out, hkl, List.drop_length]; rfl
   exact ⟨by rw [hfin]; rfl, hB⟩
theorem zp8 {p : Prop} (h : p := by (repeat first | (with_reducible first | assumption | apply Holds.set7 | apply Holds.set2 | apply Holds.set4 | apply Holds.putL | ((refine Holds.new' _ _ ?_); (simp; done)) | refine Holds.alloc ?_ _ | refine Holds.drew ?_ | refine Holds.far ?_ (by simp only [ne_eq]; omega) _) | rfl)) : p := h
set_option maxRecDepth 100000 in
set_option maxHeartbeats 4000000 in
theorem Agree_in (err miss full emp : Int) (G H : Option Addr) (d q : Nat) (gs : List Gr) (hs : List Hf) (A : Option Addr) (c : Nat) (xs : List Int) (w : World) (hG : GradesAt w G gs) (hgl : gs.length ≤ 1000) (hA : HandsAt w H hs) (hl : hs.length ≤ 1000) (he : bothErr err miss gs full emp hs = 0)
  (hX : IntsAt w A xs) (hlx : xs.length ≤ 1000) (hin : ∀ x ∈ xs, within x 0 ((hs.length : Int) - 1) = true) (htw : twice xs = false) :
  Calls Try.prog 51 #[.agg #[.int .i64 err, .int .i64 miss, .slice G gs.length d], .agg #[.int .i64 full, .int .i64 emp, .slice H hs.length q], .slice A xs.length c] w fun e w' =>
   e = .returned (.tuple #[.bool (!(boundsOf miss (fun i => xs.contains (i : Int)) hs).empty), .int .i64 0]) ∧ Below w.heap.size w w' := by
 have HH := Lib.hid hA
 have HG := Lib.hid hG
 have HX := Lib.hid hX
 obtain ⟨hg0, hc0⟩ := bothErr_zero he
 obtain ⟨_, r0, r1, m0, m1, _, _⟩ := gateErr_zero hg0
 obtain ⟨_, f0, f1, e0, e1, ht, hn⟩ := cartErr_zero hc0
 have HE := Lib.hid he
 have HT := Lib.hid ht
 have HN := Lib.hid hn
 have hwf : ∀ x ∈ xs, (Lit.int .i64 x).wf = true := fun x hx => wf_small (hin x hx) hl
 have hal : xs.all (fun x => within x 0 ((hs.length : Int) - 1)) = true := List.all_eq_true.2 hin
 have HWF := Lib.hid hwf
 have HAL := Lib.hid hal
 have HTW := Lib.hid htw
 have hlx' : xs.length ≤ 1000000 := by omega
 obtain ⟨rb, hrb⟩ : ∃ z, z = !(boundsOf miss (fun i => xs.contains (i : Int)) hs).empty := ⟨_, rfl⟩
 rw [← hrb]
 have HRB := Lib.hid hrb
 clear he hg0 hc0 ht hn hA hG hX hwf hal htw hrb hin
 go_enter Try.func51, Try.ntmps51
 go_wp2_with fail
 refine (arrive_at err miss full emp G H d q gs hs _ (HG.out.up zg) hgl (HH.out.up zg) hl HE.out).mono ?_
 rintro e w2 ⟨rfl, hb2⟩
 have Hg2 := Lib.hid (Holds.up (zp8 : Holds _ (w.heap.size) 24 #[.int .i64 err, .int .i64 miss, .slice G gs.length d]) hb2)
 have Hc2 := Lib.hid (Holds.up (zp8 : Holds _ (w.heap.size + 1) 27 #[.int .i64 full, .int .i64 emp, .slice H hs.length q]) hb2)
 have HS2 : Hid (Below w.heap.size w w2) := Lib.hid (Below.trans zg (hb2.mono (by first | exact Nat.le_refl _ | omega | (simp; done) | (simp; omega))))
 have HB2 := HS2
 have hs2 := HB2.out.size
 have hst2 := HS2.out.size
 have HH2 := Lib.hid (HH.out.up HS2.out)
 have HX2 := Lib.hid (HX.out.up HS2.out)
 clear hb2
 go_wp2_with fail
 refine (everyHas_any full emp H hs.length q hl A c xs _ (HX2.out.up zg) hlx).mono ?_
 rw [HAL.out]
 rintro e w3 ⟨rfl, hb3⟩
 have Hg3 := Lib.hid (Holds.up (by have h := Hg2.out; exact zp8 : Holds _ (w.heap.size) 24 #[.int .i64 err, .int .i64 miss, .slice G gs.length d]) hb3)
 have Hc3 := Lib.hid (Holds.up (by have h := Hc2.out; exact zp8 : Holds _ (w.heap.size + 1) 27 #[.int .i64 full, .int .i64 emp, .slice H hs.length q]) hb3)
 have Ha3 := Lib.hid (Holds.up (zp8 : Holds _ (w2.heap.size) 147 #[.int .i64 full, .int .i64 emp, .slice H hs.length q, .int .i64 err, .int .i64 miss, .slice G gs.length d, .func (.func 99) #[.agg #[.int .i64 full, .int .i64 emp, .slice H hs.length q]] #[]]) hb3)
 have HS3 : Hid (Below w2.heap.size w2 w3) := Lib.hid (Below.trans zg (hb3.mono (by first | exact Nat.le_refl _ | omega | (simp; done) | (simp; omega))))
 have HB3 : Hid (Below w.heap.size w w3) := Lib.hid (HB2.out.trans (HS3.out.mono hs2))
 have hs3 := HB3.out.size
 have hst3 := HS3.out.size
 have HH3 := Lib.hid (HH2.out.up HS3.out)
 have HX3 := Lib.hid (HX2.out.up HS3.out)
 clear hb3
 go_wp2_with fail
 refine (hasTwice_any A c xs _ (HX3.out.up zg) hlx' HWF.out).mono ?_
 rw [HTW.out]
 rintro e w4 ⟨rfl, hb4⟩
 have Hg4 := Lib.hid (Holds.up (by have h := Hg3.out; exact zp8 : Holds _ (w.heap.size) 24 #[.int .i64 err, .int .i64 miss, .slice G gs.length d]) hb4)
 have Hc4 := Lib.hid (Holds.up (by have h := Hc3.out; exact zp8 : Holds _ (w.heap.size + 1) 27 #[.int .i64 full, .int .i64 emp, .slice H hs.length q]) hb4)
 have Ha4 := Lib.hid (Holds.up (by have h := Ha3.out; exact zp8 : Holds _ (w2.heap.size) 147 #[.int .i64 full, .int .i64 emp, .slice H hs.length q, .int .i64 err, .int .i64 miss, .slice G gs.length d, .func (.func 99) #[.agg #[.int .i64 full, .int .i64 emp, .slice H hs.length q]] #[]]) hb4)
 have HS4 : Hid (Below w3.heap.size w3 w4) := Lib.hid (Below.trans zg (hb4.mono (by first | exact Nat.le_refl _ | omega | (simp; done) | (simp; omega))))
 have HB4 : Hid (Below w.heap.size w w4) := Lib.hid (HB3.out.trans (HS4.out.mono hs3))
 have hs4 := HB4.out.size
 have hst4 := HS4.out.size
 have HH4 := Lib.hid (HH3.out.up HS4.out)
 have HX4 := Lib.hid (HX3.out.up HS4.out)
 clear hb4
 go_wp2_with fail
 rename_i Kc hKc
 have HSL := Lib.hid (show slotsOf [some 30, some 31, some 32, some 33, some 6, some 7] = [30, 31, 32, 33, 6, 7] from rfl)
 refine wp_region_partsG (by kernel_rfl) [some 30, some 31, some 32, some 33, some 6, some 7] (fun jq xq w' => match jq with
  | 0 => xq 30 = .agg #[.int .i64 full, .int .i64 emp, .slice H hs.length q, .int .i64 err, .int .i64 miss, .slice G gs.length d, .func (.func 99) #[.agg #[.int .i64 full, .int .i64 emp, .slice H hs.length q]] #[]]
  | 1 => xq 31 = .slice A xs.length c
  | 2 => ∃ b, xq 32 = .func (.func 140) #[] #[.pointer (some ⟨b, 0, none⟩)] ∧ Holds w' b 87 #[.slice A xs.length c]
  | 3 => xq 33 = .bool rb
  | 4 => xq 6 = .bool rb
  | 5 => xq 7 = .int .i64 0
  | _ => True) [[30], [31], [32], [33], [6], [7]] [] (fun w' => Below w4.heap.size w4 w') (by kernel_rfl)  ?_ ?_ (fun w' w'' hb h => h.trans (hb.mono h.size)) (Below.refl _ _) ?_ ?_ ?_
 ·intro jq xq xq' wqq h hv
  match jq, h, hv with
  | 0, h, hv => show xq' 30 = .agg #[.int .i64 full, .int .i64 emp, .slice H hs.length q, .int .i64 err, .int .i64 miss, .slice G gs.length d, .func (.func 99) #[.agg #[.int .i64 full, .int .i64 emp, .slice H hs.length q]] #[]]; rw [← h 30 (by decide)]; exact hv
  | 1, h, hv => show xq' 31 = .slice A xs.length c; rw [← h 31 (by decide)]; exact hv
  | 2, h, hv => show ∃ b, xq' 32 = .func (.func 140) #[] #[.pointer (some ⟨b, 0, none⟩)] ∧ Holds wqq b 87 #[.slice A xs.length c]; rw [← h 32 (by decide)]; exact hv
  | 3, h, hv => show xq' 33 = .bool rb; rw [← h 33 (by decide)]; exact hv
  | 4, h, hv => show xq' 6 = .bool rb; rw [← h 6 (by decide)]; exact hv
  | 5, h, hv => show xq' 7 = .int .i64 0; rw [← h 7 (by decide)]; exact hv
  | _ + 6, _, _ => trivial
 ·intro jq xq wqq w' hb' hv
  match jq, hv with
  | 0, hv => exact hv
  | 1, hv => exact hv
  | 2, ⟨b0, h0, h1⟩ => exact ⟨b0, h0, h1.up hb'⟩
  | 3, hv => exact hv
  | 4, hv => exact hv
  | 5, hv => exact hv
  | _ + 6, _ => trivial
 ·intro jq hj
  match jq, hj with
  | 0, hj => exact absurd hj (by decide)
  | 1, hj => exact absurd hj (by decide)
  | 2, hj => exact absurd hj (by decide)
  | 3, hj => exact absurd hj (by decide)
  | 4, hj => exact absurd hj (by decide)
  | 5, hj => exact absurd hj (by decide)
  | _ + 6, _ => trivial
 ·refine ⟨?_, ?_, ?_, ?_, ?_, ?_, trivial⟩
  ·intro xq w5 hb5 hx K hK0
   have hK := fun v w' hb => hK0 v w' (.inl hb)
   clear hx hKc hK0
   obtain ⟨kq0, kq1, kq2, kq3, kq4, kq5, kq6⟩ := (Ha4.out.up hb5).c7
   simp only [frameOf, fill, setSlot, sg, Nat.reduceBEq, if_true, if_false, Nat.reduceAdd, Nat.reduceEqDiff, HSL.out] at hK ⊢
   go_wp2_with (fail)
   exact hK _ _ (Below.refl _ _) rfl
  ·intro xq w5 hb5 hx K hK0
   have hK := fun v w' hb => hK0 v w' (.inl hb)
   clear hx hKc hK0
   simp only [frameOf, fill, setSlot, sg, Nat.reduceBEq, if_true, if_false, Nat.reduceAdd, Nat.reduceEqDiff, HSL.out] at hK ⊢
   go_wp2_with (fail)
   exact hK _ _ (Below.refl _ _) rfl
  ·intro xq w5 hb5 hx K hK0
   have hK := fun v w' hb => hK0 v w' (.inl hb)
   have e31 : xq 31 = .slice A xs.length c := hx 1 (by rfl) (by rfl)
   clear hx hKc hK0
   simp only [frameOf, fill, setSlot, sg, Nat.reduceBEq, if_true, if_false, Nat.reduceAdd, Nat.reduceEqDiff, HSL.out] at hK ⊢
   simp only [e31] at hK ⊢
   clear e31
   go_wp2_with (go_at_call 116; refine (listed_any A c xs.length _).mono ?_; rintro e w2_ ⟨rfl, rfl⟩)
   exact hK _ _ ((Below.refl _ _).alloc (Nat.le_refl _) _) ⟨_, rfl, Holds.new _ _ _⟩
  ·intro xq w5 hb5 hx K hK0
   have hK := fun v w' hb => hK0 v w' (.inl hb)
   have e30 : xq 30 = .agg #[.int .i64 full, .int .i64 emp, .slice H hs.length q, .int .i64 err, .int .i64 miss, .slice G gs.length d, .func (.func 99) #[.agg #[.int .i64 full, .int .i64 emp, .slice H hs.length q]] #[]] := hx 0 (by rfl) (by rfl)
   obtain ⟨b32, e32, f32_0⟩ := hx 2 (by rfl) (by rfl)
   clear hx hKc hK0
   simp only [frameOf, fill, setSlot, sg, Nat.reduceBEq, if_true, if_false, Nat.reduceAdd, Nat.reduceEqDiff, HSL.out] at hK ⊢
   simp only [e30, e32] at hK ⊢
   clear e30 e32
   go_wp2_with (go_at_call 115; refine (agree_any full emp err miss H q hs _ _ 140 #[] #[.pointer (some ⟨b32, 0, none⟩)] (fun i => xs.contains (i : Int)) _ (HH4.out.up hb5) hl m0 m1 HT.out HN.out cf_listed (counts_listed b32 A c hs.length xs _ (f32_0.cell 0) (HX4.out.up hb5) hlx')).mono ?_; rw [← HRB.out]; rintro e w2_ ⟨rfl, hb_⟩)
   exact hK _ _ hb_ rfl
  ·intro xq w5 hb5 hx K hK0
   have hK := fun v w' hb => hK0 v w' (.inl hb)
   have e33 : xq 33 = .bool rb := hx 3 (by rfl) (by rfl)
   clear hx hKc hK0
   simp only [frameOf, fill, setSlot, sg, Nat.reduceBEq, if_true, if_false, Nat.reduceAdd, Nat.reduceEqDiff, HSL.out] at hK ⊢
   simp only [e33] at hK ⊢
   clear e33
   go_wp2_with (fail)
   exact hK _ _ (Below.refl _ _) rfl
  ·intro xq w5 hb5 hx K hK0
   have hK := fun v w' hb => hK0 v w' (.inl hb)
   clear hx hKc hK0
   simp only [frameOf, fill, setSlot, sg, Nat.reduceBEq, if_true, if_false, Nat.reduceAdd, Nat.reduceEqDiff, HSL.out] at hK ⊢
   go_wp2_with (fail)
   exact hK _ _ (Below.refl _ _) rfl
 ·intro xq w5 hb5 hx
  have e30 : xq 30 = .agg #[.int .i64 full, .int .i64 emp, .slice H hs.length q, .int .i64 err, .int .i64 miss, .slice G gs.length d, .func (.func 99) #[.agg #[.int .i64 full, .int .i64 emp, .slice H hs.length q]] #[]] := hx 0 (by decide)
  have e31 : xq 31 = .slice A xs.length c := hx 1 (by decide)
  obtain ⟨b32, e32, f32_0⟩ := hx 2 (by decide)
  have e33 : xq 33 = .bool rb := hx 3 (by decide)
  have e6 : xq 6 = .bool rb := hx 4 (by decide)
  have e7 : xq 7 = .int .i64 0 := hx 5 (by decide)
  clear hx
  simp only [frameOf, fill, setSlot, sg, Nat.reduceBEq, if_true, if_false, Nat.reduceAdd, Nat.reduceEqDiff, HSL.out]
  simp only [e30, e31, e32, e33, e6, e7]
  clear e30 e31 e32 e33 e6 e7
  refine hKc _ _ ?_
  go_wp2_with fail
  go_ret2
  exact ⟨rfl, HB4.out.trans (hb5.mono hs4)⟩


theorem cart_zero {full emp : Int} {hs : List Hf} (hl : hs.length ≤ 6) (f0 : 0 ≤ full) (f1 : full ≤ 10000) (e0 : 0 ≤ emp) (e1 : emp ≤ 10000) (h : ∀ x ∈ hs, x.taken = true ∧ x.enough = true) : cartErr full emp hs = 0 := by
 unfold cartErr
 have hw : (within full 0 10000 && within emp 0 10000 && hs.all Hf.taken) = true := by
  simp only [within, Bool.and_eq_true, decide_eq_true_eq, List.all_eq_true]
  exact ⟨by omega, fun x hx => (h x hx).1⟩
 have he : hs.all Hf.enough = true := by
  simp only [List.all_eq_true]
  exact fun x hx => (h x hx).2
 rw [if_neg (by omega), hw, he]
 simp
def WdRel (n S CB : Nat) (a1 : Option Addr) (len1 cap1 : Nat) (full emp miss n0 n1 n2 n3 : Int) (hs : List Hf) (rr : Int) (w5 : World) (v46 : Value) (wr : World) : Prop :=
 ∃ (ex : List Hf) (sv : Value) (tk : Nat) (mm : Int), v46 = .int .i64 (ex.length : Int) ∧ (ex.length : Int) ≤ rr ∧ (∀ h ∈ ex, TakenOk miss n0 n1 n2 n3 h) ∧ tk ≤ 20 + 8 * ex.length ∧
  Holds wr S 172 #[.slice a1 len1 cap1, .int .i64 ((tk : Nat) : Int), .int .u32 mm] ∧ Holds wr CB 27 #[.int .i64 full, .int .i64 emp, sv] ∧ OwnHands wr n sv (hs ++ ex) ∧ But n [S, CB] w5 wr
theorem grades_other_block {w w' : World} {B b : Nat} {v : Value} {gs : List Gr} {t : TypeId} {cs : Array Value} (h : OwnGrades w B v gs) (s : Holds w b t cs) (ht : t ≠ 128) (g : w.grownBy w' (some b)) : OwnGrades w' B v gs := by
 obtain ⟨hl, h | ⟨k, cap, cur, ev, hB, hg, r⟩⟩ := h
 ·exact ⟨hl, .inl h⟩
 ·exact ⟨hl, .inr ⟨k, cap, cur, ev, hB, (g.block k (Array.getElem?_eq_some_iff.1 hg).1 (fun e => by cases e; have := s.symm.trans hg; simp at this; first | exact ht this.2 | exact ht this.2.1)).trans hg, r⟩⟩
theorem grown_set (w : World) (p : Addr) (v : Value) : w.grownBy (w.setCell p v) (some p.block) := ⟨rfl, rfl, rfl, by simp, fun i _ hi => Below.heap_setCell w p v i (fun e => hi (by rw [e]))⟩
end Go.Proofs.Ytdpgfaikmahmpaa
