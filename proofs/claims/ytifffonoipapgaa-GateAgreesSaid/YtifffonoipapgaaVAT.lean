
import Derived.Test.YtifffonoipapgaaVAA
import Derived.Test.YtifffonoipapgaaVAB
import Derived.Test.YtifffonoipapgaaVAC
import Derived.Test.YtifffonoipapgaaVAO
import Derived.Test.YtifffonoipapgaaVAS
set_option linter.unusedSimpArgs false
set_option linter.unusedVariables false
namespace Go.Proofs.Ytifffonoipapgaa
open Go.RowKit
def laterLists (n : Nat) : Nat → List (List Int)
 | 0 => []
 | k + 1 => chooseK n (n - k) n [] ++ laterLists n k
def listBx (miss : Int) (hs : List Hf) (l : List Int) : Bx := boundsOf miss (fun i => l.contains (i : Int)) hs
def clashes (miss : Int) (hs : List Hf) (l : List Int) : Bool := (listBx miss hs l).empty
def firstClash (miss : Int) (hs : List Hf) (ls : List (List Int)) : List Int := (ls.find? (clashes miss hs)).getD []
def clashOf (miss : Int) (hs : List Hf) : List Int := firstClash miss hs (laterLists hs.length hs.length)
theorem firstClash_yes {miss : Int} {hs : List Hf} {l : List Int} {ls : List (List Int)} (h : clashes miss hs l = true) : firstClash miss hs (l :: ls) = l := by simp [firstClash, h]
theorem firstClash_no {miss : Int} {hs : List Hf} {l : List Int} {ls : List (List Int)} (h : clashes miss hs l = false) : firstClash miss hs (l :: ls) = firstClash miss hs ls := by simp [firstClash, h]
def ClashPost (miss : Int) (hs : List Hf) (w : World) (e : Ending) (w' : World) : Prop := ∃ v, e = .returned v ∧ OwnInts w' w.heap.size v (clashOf miss hs) ∧ Below w.heap.size w w'
theorem row_at {w : World} {B n : Nat} {e : TypeId} {v : Value} {xs : List Value} (h : w.ownsRow B e 1 v n xs) {i : Nat} (hi : i < n) : ∃ g c, v = .slice (some ⟨g, 0, none⟩) n c ∧ B ≤ g ∧ w.cell? ⟨g, i, none⟩ = xs[i]? := by
 obtain ⟨hl, ⟨rfl, rfl⟩ | ⟨g, cap, cur, rfl, hB, hb, hn, _, hsz, ht⟩⟩ := h
 ·omega
 ·refine ⟨g, cap, rfl, hB, ?_⟩
  rw [← ht, List.getElem?_take, if_pos (by omega)]
  simp [World.cell?, hb]
def OuterRel (miss : Int) (hs : List Hf) (w : World) (cs : Array Value) (v3 v4 : Value) (wr : World) : Prop :=
 ∃ (k s : Nat), v3 = .slice none 0 0 ∧ v4 = .int .i64 (s : Int) ∧ s + k = hs.length + 1 ∧ firstClash miss hs (laterLists hs.length k) = clashOf miss hs ∧ Below w.heap.size w wr ∧ Holds wr w.heap.size 147 cs
def InnerRel (miss : Int) (hs : List Hf) (k : Nat) (xss : List (List Int)) (w w2 : World) (v3 v22 : Value) (wr : World) : Prop :=
 ∃ (i : Nat), v3 = .slice none 0 0 ∧ v22 = .int .i64 (i : Int) ∧ i ≤ xss.length ∧ firstClash miss hs (xss.drop i ++ laterLists hs.length k) = clashOf miss hs ∧ Below w2.heap.size w2 wr
theorem len_choose (n : Int) (size : Nat) : ∀ (k : Nat) (l : List Int), l.length ≤ size → ∀ x ∈ chooseK n size k l, x.length = size := by
 intro k
 induction k with
 | zero => intro l _ x hx; unfold chooseK at hx; split at hx <;> simp at hx; subst hx; assumption
 | succ k ih =>
  intro l hl x hx
  unfold chooseK at hx
  split at hx
  ·simp at hx; subst hx; assumption
  ·rcases List.mem_append.1 hx with h | h
   ·exact ih _ (by simp; omega) x h
   ·exact ih _ hl x h
set_option maxRecDepth 100000 in
set_option maxHeartbeats 4000000 in
theorem clash_any (full empty err miss : Int) (A : Option Addr) (c : Nat) (hs : List Hf) (gs cf0 : Value) (w : World) (hA : HandsAt w A hs) (hl : hs.length ≤ 6)
  (m0 : 0 ≤ miss) (m1 : miss ≤ 20) (ht : ∀ x ∈ hs, x.taken = true) (hn : ∀ x ∈ hs, x.enough = true) :
  Calls Try.prog 117 #[.agg #[.int .i64 full, .int .i64 empty, .slice A hs.length c, .int .i64 err, .int .i64 miss, gs, cf0]] w (ClashPost miss hs w) := by
 have HA := Lib.hid hA
 have HT := Lib.hid ht
 have HN := Lib.hid hn
 clear hA ht hn
 go_enter Try.func117, Try.ntmps117
 go_wp2_with fail
 go_step3
 go_wp2_with fail
 go_step3
 go_wp2_with fail
 go_loopw [3, 4] (fun v3 v4 wr => OuterRel miss hs w #[.int .i64 full, .int .i64 empty, .slice A hs.length c, .int .i64 err, .int .i64 miss, gs, cf0] v3 v4 wr) (fun _ v4 _ => ((hs.length : Int) + 1 - intOf v4).toNat)
 case atStart => exact ⟨hs.length, 1, rfl, rfl, by omega, rfl, zg, zp1⟩
 case round =>
  rename World => wo
  obtain ⟨k, s, rfl, rfl, hsk, hf, hB, HH⟩ := hrel
  have HF := Lib.hid hf
  have HBw := Lib.hid hB
  clear hf
  have hSw := hB.size
  have hlt := HH.lt
  have c2 : wo.cell? ⟨w.heap.size, 2, none⟩ = some (.slice A hs.length c) := HH.cell 2
  cases k with
  | zero =>
   have hgt : hs.length < s := by omega
   go_wp2_with fail
   go_ret
   exact ⟨_, rfl, by rw [← HF.out]; exact ⟨rfl, .inl ⟨rfl, rfl⟩⟩, HBw.out⟩
  | succ k =>
   have hle : s ≤ hs.length := by omega
   go_wp2_with (go_at_call 141; refine (choices_any hs.length s _ (by omega) (by omega)).mono ?_; rintro e w2 ⟨v5, rfl, ⟨vs, hrow, hall⟩, hb2⟩; obtain ⟨A5, c5, rfl⟩ := row_val hrow; have HRW := Lib.hid hrow; have HALL := Lib.hid hall; have hvl : vs.length ≤ 100 := by { have := hall.len; have h1 := chooseK_len (hs.length : Int) s hs.length []; have h2 : 2 ^ hs.length ≤ 2 ^ 6 := Nat.pow_le_pow_right (by decide) hl; omega }; clear hrow hall)
   go_loopw [3, 22] (fun v3 v22 wr2 => InnerRel miss hs k (chooseK (hs.length : Int) s hs.length []) w w2 v3 v22 wr2) (fun _ v22 _ => ((vs.length : Int) - intOf v22).toNat)
   case atStart =>
    refine ⟨0, rfl, rfl, Nat.zero_le _, ?_, Below.refl _ _⟩
    have := HF.out
    rw [laterLists, show hs.length - k = s from by omega] at this
    exact this
   case round =>
    obtain ⟨i, rfl, rfl, hi, hfi, hBi⟩ := hrel
    have hln := HALL.out.len
    have HBi := Lib.hid hBi
    have HBr : Hid (Below w.heap.size w wr) := HBw.out.trans ((hb2.mono hSw).trans (hBi.mono (Nat.le_trans hSw hb2.size)))
    have HHr := Lib.hid ((HH.up hb2).up hBi)
    by_cases hlt2 : i < vs.length
    ·obtain ⟨xl, hxl⟩ : ∃ xl, (chooseK (hs.length : Int) s hs.length [])[i]? = some xl := ⟨_, List.getElem?_eq_getElem (by omega)⟩
     have hxs : xl.length ≤ 6 := by rw [len_choose (hs.length : Int) s hs.length [] (by simp) xl (List.mem_of_getElem? hxl)]; omega
     obtain ⟨lv, hlv, hown⟩ := HALL.out.at_ i xl hxl
     obtain ⟨Al, cl, rfl, hints⟩ := ints_of_row hown
     obtain ⟨g5, c5', e5, hB5, hcell⟩ := row_at HRW.out hlt2
     injection e5 with e51 _ e52
     subst e51
     subst e52
     have k5 : wr.cell? ⟨g5, i, none⟩ = some (.slice Al xl.length cl) := up_cell hBi (hcell.trans hlv)
     have HLi := Lib.hid (hints.up hBi)
     have HOW2 := Lib.hid hown
     have HFI := Lib.hid hfi
     clear hcell hlv hown hints hfi hBi
     have hdr : (chooseK (hs.length : Int) s hs.length []).drop i = xl :: (chooseK (hs.length : Int) s hs.length []).drop (i + 1) := by rw [List.drop_eq_getElem?_toList_append, hxl]; rfl
     have HDR := Lib.hid hdr
     clear hdr hxl
     have HLN := Lib.hid hln
     clear hln
     cases hq : clashes miss hs xl with
     | true =>
      have HQ : Hid ((boundsOf miss (fun i => xl.contains (i : Int)) hs).empty = true) := hq
      have HQ2 := Lib.hid hq
      clear hq
      go_wp2_with fail
      rename_i Kc hKc
      refine wp_region_partsF (by kernel_rfl) 3 [26, 27, 28] (fun t v w' => match t with
       | 26 => v = .agg #[.int .i64 full, .int .i64 empty, .slice A hs.length c, .int .i64 err, .int .i64 miss, gs, cf0]
       | 27 => v = .slice Al xl.length cl
       | 28 => ∃ B, v = .func (.func 140) #[] #[.pointer (some ⟨B, 0, none⟩)] ∧ Holds w' B 87 #[.slice Al xl.length cl]
       | _ => True) (by kernel_rfl) ?_ ?_ ?_
      ·intro t v w1 w2 hb' h
       revert h
       split <;> intro h <;> first
        | exact h
        | (obtain ⟨b0, rfl, h0⟩ := h; exact ⟨b0, rfl, h0.up hb'⟩)
      ·refine ⟨?_, ?_, ?_, trivial⟩
       ·intro x w1 hb1 hx K hK
        clear hx hKc
        have H1 := HHr.out.up hb1
        obtain ⟨k0, k1, k2, k3, k4, k5, k6⟩ := H1.c7
        simp only [frameOf, fill, sg, Nat.reduceBEq, if_true, if_false, Nat.reduceAdd, Nat.reduceEqDiff] at hK ⊢
        go_wp2_with (go_at_call 116; refine (listed_any Al cl xl.length _).mono ?_; rintro e w3 ⟨rfl, rfl⟩)
        exact hK _ _ (Below.refl _ _) rfl
       ·intro x w1 hb1 hx K hK
        clear hx hKc
        have H1 := HHr.out.up hb1
        obtain ⟨k0, k1, k2, k3, k4, k5, k6⟩ := H1.c7
        simp only [frameOf, fill, sg, Nat.reduceBEq, if_true, if_false, Nat.reduceAdd, Nat.reduceEqDiff] at hK ⊢
        go_wp2_with (go_at_call 116; refine (listed_any Al cl xl.length _).mono ?_; rintro e w3 ⟨rfl, rfl⟩)
        exact hK _ _ (Below.refl _ _) rfl
       ·intro x w1 hb1 hx K hK
        have e27 : x 27 = .slice Al xl.length cl := hx 27 (by rfl)
        clear hx hKc
        have H1 := HHr.out.up hb1
        obtain ⟨k0, k1, k2, k3, k4, k5, k6⟩ := H1.c7
        simp only [frameOf, fill, sg, Nat.reduceBEq, if_true, if_false, Nat.reduceAdd, Nat.reduceEqDiff] at hK ⊢
        simp only [e27] at hK ⊢
        clear e27
        go_wp2_with (go_at_call 116; refine (listed_any Al cl xl.length _).mono ?_; rintro e w3 ⟨rfl, rfl⟩)
        exact hK _ _ ((Below.refl _ _).alloc (Nat.le_refl _) _) ⟨_, rfl, Holds.new _ _ _⟩
      ·intro x w1 hb1 hx
       have e26 : x 26 = .agg #[.int .i64 full, .int .i64 empty, .slice A hs.length c, .int .i64 err, .int .i64 miss, gs, cf0] := hx 26 (by decide)
       have e27 : x 27 = .slice Al xl.length cl := hx 27 (by decide)
       have e28 := hx 28 (by decide)
       obtain ⟨B28, e28, f28_0⟩ := e28
       clear hx
       have H1 := HHr.out.up hb1
       obtain ⟨k0, k1, k2, k3, k4, k5, k6⟩ := H1.c7
       simp only [frameOf, fill, List.contains_cons, List.contains_nil, Nat.reduceBEq, Bool.or_false, Bool.false_or, Bool.or_true, Bool.true_or, if_true, if_false, Bool.false_eq_true, Nat.reduceAdd, Nat.zero_add]
       simp only [e26, e27, e28]
       clear e26 e27 e28
       clear hKc
       have hS1 := hb1.size
       have hAg := fun cf => agree_any full empty err miss A c hs gs cf 140 #[] #[.pointer (some ⟨B28, 0, none⟩)] (fun i => xl.contains (i : Int)) w1 (HA.out.up (HBr.out.trans (hb1.mono HBr.out.size))) (by omega) m0 m1 HT.out HN.out cf_listed (counts_listed B28 Al cl hs.length xl w1 (f28_0.cell 0) ((HLi.out.up hb1)) (by omega))
       have HAG := Lib.hid hAg
       clear hAg
       go_wp2_with (go_at_call 115; refine (HAG.out _).mono ?_; rw [HQ.out]; rintro e w4 ⟨rfl, hb4⟩; have HB4 : Hid (Below w2.heap.size w2 w4) := HBi.out.trans ((hb1.trans (hb4.mono hS1)).mono HBi.out.size); clear hb4)
       rw [Exit.noGoto_ret]
       go_ret
       have hfin : clashOf miss hs = xl := by rw [← HFI.out, HDR.out, List.cons_append, firstClash_yes HQ2.out]
       refine ⟨_, rfl, ?_, ?_⟩
       ·rw [hfin]; exact (HOW2.out.up HB4.out).mono hSw
       ·exact HBw.out.trans ((hb2.mono hSw).trans (HB4.out.mono (Nat.le_trans hSw hb2.size)))
     | false =>
      have HQ : Hid ((boundsOf miss (fun i => xl.contains (i : Int)) hs).empty = false) := hq
      have HQ2 := Lib.hid hq
      clear hq
      go_wp2_with fail
      rename_i Kc hKc
      refine wp_region_partsF (by kernel_rfl) 3 [26, 27, 28] (fun t v w' => match t with
       | 26 => v = .agg #[.int .i64 full, .int .i64 empty, .slice A hs.length c, .int .i64 err, .int .i64 miss, gs, cf0]
       | 27 => v = .slice Al xl.length cl
       | 28 => ∃ B, v = .func (.func 140) #[] #[.pointer (some ⟨B, 0, none⟩)] ∧ Holds w' B 87 #[.slice Al xl.length cl]
       | _ => True) (by kernel_rfl) ?_ ?_ ?_
      ·intro t v w1 w2 hb' h
       revert h
       split <;> intro h <;> first
        | exact h
        | (obtain ⟨b0, rfl, h0⟩ := h; exact ⟨b0, rfl, h0.up hb'⟩)
      ·refine ⟨?_, ?_, ?_, trivial⟩
       ·intro x w1 hb1 hx K hK
        clear hx hKc
        have H1 := HHr.out.up hb1
        obtain ⟨k0, k1, k2, k3, k4, k5, k6⟩ := H1.c7
        simp only [frameOf, fill, sg, Nat.reduceBEq, if_true, if_false, Nat.reduceAdd, Nat.reduceEqDiff] at hK ⊢
        go_wp2_with (go_at_call 116; refine (listed_any Al cl xl.length _).mono ?_; rintro e w3 ⟨rfl, rfl⟩)
        exact hK _ _ (Below.refl _ _) rfl
       ·intro x w1 hb1 hx K hK
        clear hx hKc
        have H1 := HHr.out.up hb1
        obtain ⟨k0, k1, k2, k3, k4, k5, k6⟩ := H1.c7
        simp only [frameOf, fill, sg, Nat.reduceBEq, if_true, if_false, Nat.reduceAdd, Nat.reduceEqDiff] at hK ⊢
        go_wp2_with (go_at_call 116; refine (listed_any Al cl xl.length _).mono ?_; rintro e w3 ⟨rfl, rfl⟩)
        exact hK _ _ (Below.refl _ _) rfl
       ·intro x w1 hb1 hx K hK
        have e27 : x 27 = .slice Al xl.length cl := hx 27 (by rfl)
        clear hx hKc
        have H1 := HHr.out.up hb1
        obtain ⟨k0, k1, k2, k3, k4, k5, k6⟩ := H1.c7
        simp only [frameOf, fill, sg, Nat.reduceBEq, if_true, if_false, Nat.reduceAdd, Nat.reduceEqDiff] at hK ⊢
        simp only [e27] at hK ⊢
        clear e27
        go_wp2_with (go_at_call 116; refine (listed_any Al cl xl.length _).mono ?_; rintro e w3 ⟨rfl, rfl⟩)
        exact hK _ _ ((Below.refl _ _).alloc (Nat.le_refl _) _) ⟨_, rfl, Holds.new _ _ _⟩
      ·intro x w1 hb1 hx
       have e26 : x 26 = .agg #[.int .i64 full, .int .i64 empty, .slice A hs.length c, .int .i64 err, .int .i64 miss, gs, cf0] := hx 26 (by decide)
       have e27 : x 27 = .slice Al xl.length cl := hx 27 (by decide)
       have e28 := hx 28 (by decide)
       obtain ⟨B28, e28, f28_0⟩ := e28
       clear hx
       have H1 := HHr.out.up hb1
       obtain ⟨k0, k1, k2, k3, k4, k5, k6⟩ := H1.c7
       simp only [frameOf, fill, List.contains_cons, List.contains_nil, Nat.reduceBEq, Bool.or_false, Bool.false_or, Bool.or_true, Bool.true_or, if_true, if_false, Bool.false_eq_true, Nat.reduceAdd, Nat.zero_add]
       simp only [e26, e27, e28]
       clear e26 e27 e28
       clear hKc
       have hS1 := hb1.size
       have hAg := fun cf => agree_any full empty err miss A c hs gs cf 140 #[] #[.pointer (some ⟨B28, 0, none⟩)] (fun i => xl.contains (i : Int)) w1 (HA.out.up (HBr.out.trans (hb1.mono HBr.out.size))) (by omega) m0 m1 HT.out HN.out cf_listed (counts_listed B28 Al cl hs.length xl w1 (f28_0.cell 0) ((HLi.out.up hb1)) (by omega))
       have HAG := Lib.hid hAg
       clear hAg
       go_wp2_with (go_at_call 115; refine (HAG.out _).mono ?_; rw [HQ.out]; rintro e w4 ⟨rfl, hb4⟩; have HB4 : Hid (Below w2.heap.size w2 w4) := HBi.out.trans ((hb1.trans (hb4.mono hS1)).mono HBi.out.size); clear hb4)
       go_roundw
       case rel =>
        refine ⟨i + 1, rfl, by go_num, by have := HLN.out; omega, ?_, HB4.out⟩
        rw [← HFI.out, HDR.out, List.cons_append, firstClash_no HQ2.out]
       case measure => simp [intOf]; omega
    ·have hil : i = vs.length := by omega
     have HFI := Lib.hid hfi
     have HLN := Lib.hid hln
     clear hfi hln
     go_wp2_with fail
     go_roundw
     case rel =>
      refine ⟨k, s + 1, rfl, by go_num, by omega, ?_, HBr.out, HHr.out⟩
      rw [← HFI.out, List.drop_of_length_le (by have := HLN.out; omega)]
      rfl
     case measure => simp [intOf]; omega
set_option maxRecDepth 100000 in
set_option maxHeartbeats 2000000 in
theorem Clash_err (err miss full empty : Int) (G A : Option Addr) (d c : Nat) (gs : List Gr) (hs : List Hf) (w : World) (hG : GradesAt w G gs) (hgl : gs.length ≤ 1000) (hA : HandsAt w A hs) (hl : hs.length ≤ 1000) (he : bothErr err miss gs full empty hs ≠ 0) :
  Calls Try.prog 52 #[.agg #[.int .i64 err, .int .i64 miss, .slice G gs.length d], .agg #[.int .i64 full, .int .i64 empty, .slice A hs.length c]] w fun e w' => e = .returned (.tuple #[.slice none 0 0, .int .i64 (bothErr err miss gs full empty hs)]) ∧ Below w.heap.size w w' := by
 have HA := Lib.hid hA
 have HG := Lib.hid hG
 clear hA hG
 have hq : (bothErr err miss gs full empty hs != 0) = true := by simpa using he
 have HE := Lib.hid he
 clear he
 go_enter Try.func52, Try.ntmps52
 go_wp2_with (go_at_call 97; refine (arrive_err err miss full empty G A d c gs hs _ (HG.out.up zg) hgl (HA.out.up zg) hl HE.out).mono ?_; rintro e w2 ⟨rfl, hb2⟩; have hB2 : Below w.heap.size w w2 := Below.trans zg (hb2.mono (by first | omega | (simp; done) | (simp; omega))); have hs2 := hb2.size; simp only [World.size_alloc] at hs2)
 go_ret2
 exact ⟨rfl, zg⟩
def ClashRes (miss : Int) (hs : List Hf) (w : World) (e : Ending) (w' : World) : Prop :=
 ∃ v, e = .returned (.tuple #[v, .int .i64 (if (clashOf miss hs).length = 0 then 6 else 0)]) ∧ OwnInts w' w.heap.size v (clashOf miss hs) ∧ Below w.heap.size w w'
set_option maxRecDepth 100000 in
set_option maxHeartbeats 2000000 in
theorem Clash_ok (err miss full empty : Int) (G A : Option Addr) (d c : Nat) (gs : List Gr) (hs : List Hf) (w : World) (hG : GradesAt w G gs) (hgl : gs.length ≤ 1000) (hA : HandsAt w A hs) (hl : hs.length ≤ 1000) (he : bothErr err miss gs full empty hs = 0) :
  Calls Try.prog 52 #[.agg #[.int .i64 err, .int .i64 miss, .slice G gs.length d], .agg #[.int .i64 full, .int .i64 empty, .slice A hs.length c]] w (ClashRes miss hs w) := by
 have HA := Lib.hid hA
 have HG := Lib.hid hG
 clear hA hG
 have hq : (bothErr err miss gs full empty hs != 0) = false := by simp [he]
 obtain ⟨hg0, hc0⟩ := bothErr_zero he
 obtain ⟨_, _, _, m0, m1, _, _⟩ := gateErr_zero hg0
 obtain ⟨hl6, _, _, _, _, ht, hn⟩ := cartErr_zero hc0
 have HE := Lib.hid he
 have HT := Lib.hid ht
 have HN := Lib.hid hn
 clear he hg0 hc0 ht hn
 go_enter Try.func52, Try.ntmps52
 by_cases hz : (clashOf miss hs).length = 0
 ·have HZ := Lib.hid hz
  have hq2 : (((clashOf miss hs).length : Int) == 0) = true := by simp [hz]
  have hq3 : ((clashOf miss hs).length == 0) = true := by simp [hz]
  clear hz
  go_wp2_with (first | (go_at_call 97; refine (arrive_at err miss full empty G A d c gs hs _ (HG.out.up zg) hgl (HA.out.up zg) hl HE.out).mono ?_; rintro e w2 ⟨rfl, hb2⟩; have hB2 : Below w.heap.size w w2 := Below.trans zg (hb2.mono (by first | omega | (simp; done) | (simp; omega))); have hs2 := hb2.size; simp only [World.size_alloc] at hs2; clear hb2) | (go_at_call 117; refine (clash_any full empty err miss A c hs _ _ _ (HA.out.up zg) hl6 m0 m1 HT.out HN.out).mono ?_; rintro e w3 ⟨v3, rfl, ho3, hb3⟩; obtain ⟨A3, c3, e3⟩ := row_val ho3; have HO3 := Lib.hid ho3; subst e3; have HB3 : Hid (Below w.heap.size w w3) := Below.trans zg (hb3.mono (by first | omega | (simp; done) | (simp; omega))); have hs3 := hb3.size; clear ho3 hb3))
  go_ret2
  refine ⟨.slice none 0 0, by rw [if_pos HZ.out]; rfl, ?_, HB3.out⟩
  have h := HZ.out
  exact ⟨by simp, .inl ⟨rfl, h⟩⟩
 ·have HZ := Lib.hid hz
  have hq2 : (((clashOf miss hs).length : Int) == 0) = false := by simp at hz ⊢; exact hz
  have hq3 : ((clashOf miss hs).length == 0) = false := by simpa using hz
  have hq4 : 0 < (clashOf miss hs).length := by omega
  clear hz
  go_wp2_with (first | (go_at_call 97; refine (arrive_at err miss full empty G A d c gs hs _ (HG.out.up zg) hgl (HA.out.up zg) hl HE.out).mono ?_; rintro e w2 ⟨rfl, hb2⟩; have hB2 : Below w.heap.size w w2 := Below.trans zg (hb2.mono (by first | omega | (simp; done) | (simp; omega))); have hs2 := hb2.size; simp only [World.size_alloc] at hs2; clear hb2) | (go_at_call 117; refine (clash_any full empty err miss A c hs _ _ _ (HA.out.up zg) hl6 m0 m1 HT.out HN.out).mono ?_; rintro e w3 ⟨v3, rfl, ho3, hb3⟩; obtain ⟨A3, c3, e3⟩ := row_val ho3; have HO3 := Lib.hid ho3; subst e3; have HB3 : Hid (Below w.heap.size w w3) := Below.trans zg (hb3.mono (by first | omega | (simp; done) | (simp; omega))); have hs3 := hb3.size; clear ho3 hb3))
  go_ret2
  refine ⟨.slice A3 (clashOf miss hs).length c3, by rw [if_neg HZ.out]; rfl, HO3.out.mono (by first | omega | (simp; omega)), HB3.out⟩
def mn (a b : Int) : Int := if b < a then b else a
def Bx.r0 (b : Bx) : Int := 40 - (b.l0 + b.l1 + b.l2 + b.l3)
def Bx.t0 (b : Bx) : Int := mn b.r0 (b.h0 - b.l0)
def Bx.r1 (b : Bx) : Int := b.r0 - b.t0
def Bx.t1 (b : Bx) : Int := mn b.r1 (b.h1 - b.l1)
def Bx.r2 (b : Bx) : Int := b.r1 - b.t1
def Bx.t2 (b : Bx) : Int := mn b.r2 (b.h2 - b.l2)
def Bx.r3 (b : Bx) : Int := b.r2 - b.t2
def Bx.t3 (b : Bx) : Int := mn b.r3 (b.h3 - b.l3)
def Bx.r4 (b : Bx) : Int := b.r3 - b.t3
structure Bx.Small (b : Bx) : Prop where
 a0 : -200 ≤ b.r0
 b0 : b.r0 ≤ 200
 a1 : -200 ≤ b.r1
 b1 : b.r1 ≤ 200
 a2 : -200 ≤ b.r2
 b2 : b.r2 ≤ 200
 a3 : -200 ≤ b.r3
 b3 : b.r3 ≤ 200
theorem Bx.ok.small {b : Bx} (o : b.ok) : b.Small := by
 have v0 := o.s0.bd
 have v1 := o.s1.bd
 have v2 := o.s2.bd
 have v3 := o.s3.bd
 have e0 : -120 ≤ b.r0 ∧ b.r0 ≤ 40 := by unfold Bx.r0; omega
 have e1 : 0 ≤ b.r1 ∧ b.r1 ≤ 41 := by unfold Bx.r1 Bx.t0 mn; split <;> omega
 have e2 : 0 ≤ b.r2 ∧ b.r2 ≤ 42 := by unfold Bx.r2 Bx.t1 mn; split <;> omega
 have e3 : 0 ≤ b.r3 ∧ b.r3 ≤ 43 := by unfold Bx.r3 Bx.t2 mn; split <;> omega
 exact ⟨by omega, by omega, by omega, by omega, by omega, by omega, by omega, by omega⟩
end Go.Proofs.Ytifffonoipapgaa
