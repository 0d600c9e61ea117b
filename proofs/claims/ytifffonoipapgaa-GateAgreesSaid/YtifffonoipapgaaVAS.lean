import Derived.IntWalk
import Derived.Test.YtifffonoipapgaaVAA
import Derived.Test.YtifffonoipapgaaVAC
import Derived.Test.YtifffonoipapgaaVAO
import Derived.Test.YtifffonoipapgaaVAQ
import Derived.Test.YtifffonoipapgaaVAR
set_option linter.unusedSimpArgs false
set_option linter.unusedVariables false
namespace Go.Proofs.Ytifffonoipapgaa
open Go.RowKit
def ChooseRel (B0 Ba : Nat) (n : Int) (size k : Nat) (xs : List Int) (xss : List (List Int)) (W : World) (v8 : Value) (wr : World) : Prop :=
 ∃ (j : Nat) (g : Int) (D : List (List Int)) (v : Value), v8 = .int .i64 g ∧ g + j = n ∧ j ≤ k ∧ D ++ chooseK n size j xs = chooseK n size k xs ∧ Keep W wr ∧ Below B0 W wr ∧ Holds wr Ba 182 #[v] ∧ Lists wr B0 v (xss ++ D)
theorem chooseK_no {n : Int} {size k : Nat} {l : List Int} (h : l.length ≠ size) : chooseK n size (k + 1) l = chooseK n size k (l ++ [n - ((k + 1 : Nat) : Int)]) ++ chooseK n size k l := by rw [chooseK, if_neg h]
theorem chooseK_zero {n : Int} {size : Nat} {l : List Int} (h : l.length ≠ size) : chooseK n size 0 l = [] := by rw [chooseK, if_neg h]
theorem one_cell {w : World} {B : Nat} {u : Value} (h : w.cell? ⟨B, 0, none⟩ = some u) : ∀ (j : Nat) (x : Value), [u][j]? = some x → w.cell? ((⟨B, 0, none⟩ : Addr).add j) = some x := by
 intro j x hx
 cases j with
 | zero => simp at hx; subst hx; exact h
 | succ j => simp at hx
theorem choose_own {w : World} {B B' : Nat} {v : Value} {xs : List Int} {g : Int} (h : w.ownsRow B' 3 1 v (xs.length + 1) (xs.map (Value.int .i64) ++ [.int .i64 g])) (hB : B ≤ B') : OwnInts w B v (xs ++ [g]) := by
 refine OwnInts.mono ?_ hB
 unfold OwnInts
 simpa using h
theorem choose_room {n g : Int} {size j k : Nat} {xs : List Int} {xss D : List (List Int)} (hx : xss.length + (chooseK n size k xs).length ≤ 100000) (hD : D ++ chooseK n size (j + 1) xs = chooseK n size k xs) (he : xs.length ≠ size) (hg : g + ((j + 1 : Nat) : Int) = n) :
  (xss ++ D).length + (chooseK n size j (xs ++ [g])).length ≤ 100000 := by
 rw [← hD, chooseK_no he, show n - ((j + 1 : Nat) : Int) = g from by omega] at hx
 simp only [List.length_append] at hx ⊢
 omega
theorem choose_next {B0 Ba : Nat} {n g : Int} {size k j : Nat} {xs : List Int} {xss D : List (List Int)} {W wr w1 w4 : World} {v5 : Value} (hk : Keep W wr) (hb : Below B0 W wr) (hb1 : Below wr.heap.size wr w1) (hk4 : Keep w1 w4) (hb4 : Below B0 w1 w4) (hS : B0 ≤ wr.heap.size)
  (hv : Holds w4 Ba 182 #[v5]) (hl : Lists w4 B0 v5 ((xss ++ D) ++ chooseK n size j (xs ++ [g]))) (hD : D ++ chooseK n size (j + 1) xs = chooseK n size k xs) (he : xs.length ≠ size) (hg : g + ((j + 1 : Nat) : Int) = n) (hjk : j + 1 ≤ k) :
  ChooseRel B0 Ba n size k xs xss W (.int .i64 (g + 1)) w4 := by
 refine ⟨j, g + 1, D ++ chooseK n size j (xs ++ [g]), v5, rfl, by omega, by omega, ?_, (hk.trans (.of hb1)).trans hk4, (hb.trans (hb1.mono hS)).trans hb4, hv, ?_⟩
 ·rw [← hD, chooseK_no he, show n - ((j + 1 : Nat) : Int) = g from by omega, List.append_assoc]
 ·rw [← List.append_assoc]; exact hl
set_option maxRecDepth 100000 in
set_option maxHeartbeats 4000000 in
theorem choose_any (B0 Bs Ba Bn Bc : Nat) (n : Int) (size : Nat) (hn0 : 0 ≤ n) (hn1 : n ≤ 1000) (hz : size ≤ 1000) (hB : B0 ≤ Ba) : ∀ (k : Nat) (f : Int) (lv v : Value) (xs : List Int) (xss : List (List Int)) (W : World),
  0 ≤ f → f + k = n → Holds W Bs 3 #[.int .i64 (size : Int)] → Holds W Bn 3 #[.int .i64 n] →
  Holds W Bc 188 #[.func (.func 146) #[] #[.pointer (some ⟨Bs, 0, none⟩), .pointer (some ⟨Ba, 0, none⟩), .pointer (some ⟨Bn, 0, none⟩), .pointer (some ⟨Bc, 0, none⟩)]] →
  Holds W Ba 182 #[v] → Lists W B0 v xss → OwnInts W B0 lv xs → xs.length ≤ size → xss.length + (chooseK n size k xs).length ≤ 100000 →
  Calls Try.prog 146 #[lv, .int .i64 f, .pointer (some ⟨Bs, 0, none⟩), .pointer (some ⟨Ba, 0, none⟩), .pointer (some ⟨Bn, 0, none⟩), .pointer (some ⟨Bc, 0, none⟩)] W (ChosePost B0 Ba (xss ++ chooseK n size k xs) W) := by
 intro k
 induction k using Nat.strongRecOn with
 | ind k ih =>
  intro f lv v xs xss W hf0 hfk hs hn hc ha hL hl hle hx
  by_cases he : xs.length = size
  ·exact choose_leaf B0 Bs Ba Bn Bc k n f size lv v xs xss W hs ha hB hL hl he (by omega)
  ·obtain ⟨A, c, rfl, _⟩ := ints_of_row hl
   obtain ⟨i0, hi, hz0, hz1, hz2⟩ := info_parts info_int
   have c0 : W.cell? ⟨Bs, 0, none⟩ = some (.int .i64 (size : Int)) := hs.cell 0
   have hq : ((xs.length : Int) == (size : Int)) = false := by simp; omega
   have hq2 : (xs.length == size) = false := by simpa using he
   have IH := Lib.hid ih
   have HS := Lib.hid hs
   have HN := Lib.hid hn
   have HC := Lib.hid hc
   have HA := Lib.hid ha
   have HLL := Lib.hid hL
   have HL := Lib.hid hl
   have HE := Lib.hid he
   have HX := Lib.hid hx
   have hlt : xs.length < size := by omega
   clear ih hs hn hc ha hL hl he hx
   go_enter Try.func146, Try.ntmps146
   go_wp2_with fail
   go_loopw [8] (fun v8 wr => ChooseRel B0 Ba n size k xs xss W v8 wr) (fun v8 _ => (n - intOf v8).toNat)
   case atStart => exact ⟨k, f, [], v, rfl, hfk, Nat.le_refl _, rfl, Keep.refl _, Below.refl _ _, HA.out, by simpa using HLL.out⟩
   case round =>
    obtain ⟨j, g, D, v', rfl, hgj, hjk, hD, hk, hb, ha', hL'⟩ := hrel
    have n0 : wr.cell? ⟨Bn, 0, none⟩ = some (.int .i64 n) := (HN.out.keep hk (by decide) (by decide)).cell 0
    have HC' := Lib.hid (HC.out.keep hk (by decide) (by decide))
    have HN' := Lib.hid (HN.out.keep hk (by decide) (by decide))
    have HS' := Lib.hid (HS.out.keep hk (by decide) (by decide))
    have HLr := Lib.hid (HL.out.keep hk)
    have b0 : wr.cell? ⟨Bc, 0, none⟩ = some (.func (.func 146) #[] #[.pointer (some ⟨Bs, 0, none⟩), .pointer (some ⟨Ba, 0, none⟩), .pointer (some ⟨Bn, 0, none⟩), .pointer (some ⟨Bc, 0, none⟩)]) := HC'.out.cell 0
    have HD := Lib.hid hD
    have HK := Lib.hid hk
    have HA' := Lib.hid ha'
    have HL' := Lib.hid hL'
    have HG := Lib.hid hgj
    clear hD hk ha' hL' hgj
    cases j with
    | zero =>
     have hgn : n ≤ g := by have := HG.out; omega
     go_wp2_with fail
     go_end0
     have hDk := HD.out
     rw [chooseK_zero HE.out, List.append_nil] at hDk
     exact ⟨⟨_, rfl⟩, HK.out, hb, v', HA'.out, by rw [← hDk]; exact HL'.out⟩
    | succ j =>
     have hgn : g < n := by have := HG.out; omega
     have hg0 : 0 ≤ g := by have := HG.out; omega
     have hcf := cf_choose
     have hS0 : B0 ≤ wr.heap.size := by have := HA'.out.lt; omega
     have hg2 : IntKind.i64.wrap (g + 1) = g + 1 := IntWalk.i64_in _ (by omega)
     go_wp2_with fail
     rename_i Kc hKc
     refine wp_region_partsE (by kernel_rfl) 8 [23, 24, 25, 26, 27, 28, 29, 30] (fun t v w' => match t with
      | 23 => v = .func (.func 146) #[] #[.pointer (some ⟨Bs, 0, none⟩), .pointer (some ⟨Ba, 0, none⟩), .pointer (some ⟨Bn, 0, none⟩), .pointer (some ⟨Bc, 0, none⟩)]
      | 24 => v = .slice A xs.length c
      | 25 => ∃ A c, v = .slice A xs.length c ∧ OwnInts w' wr.heap.size (.slice A xs.length c) xs
      | 26 => v = .int .i64 g
      | 27 => ∃ B, v = .slice (some ⟨B, 0, none⟩) 1 1 ∧ Holds w' B 3 #[.int .i64 g]
      | 28 => ∃ A c, v = .slice A (xs.length + 1) c ∧ OwnInts w' wr.heap.size (.slice A (xs.length + 1) c) (xs ++ [g])
      | 29 => v = .int .i64 g
      | 30 => v = .int .i64 (g + 1)
      | _ => True) (fun i d => (i == 5 && (d == 25 || d == 27))) (by kernel_rfl) (by kernel_rfl) ?_ ?_ ?_
     ·intro t v w1 w2 hb' h
      revert h
      split <;> intro h <;> first
       | exact h
       | (obtain ⟨b0, rfl, h0⟩ := h; exact ⟨b0, rfl, h0.up hb'⟩)
       | (obtain ⟨b0, b1, rfl, h0⟩ := h; exact ⟨b0, b1, rfl, h0.up hb'⟩)
     ·refine ⟨?_, ?_, ?_, ?_, ?_, ?_, ?_, ?_, trivial⟩
      ·intro x w1 hb1 hx K hK0
       have hK := fun v w' hb => hK0 v w' (.inl hb)
       clear hK0
       clear hx hKc
       have b1 : w1.cell? ⟨Bc, 0, none⟩ = some (.func (.func 146) #[] #[.pointer (some ⟨Bs, 0, none⟩), .pointer (some ⟨Ba, 0, none⟩), .pointer (some ⟨Bn, 0, none⟩), .pointer (some ⟨Bc, 0, none⟩)]) := (HC'.out.up hb1).cell 0
       simp only [frameOf, fill, sg, Nat.reduceBEq, if_true, if_false, Nat.reduceAdd, Nat.reduceEqDiff] at hK ⊢
       go_wp2_with (first | (go_at_call 77; refine (Clone_own B0 (.slice A xs.length c) xs _ (HLr.out.up hb1) (by omega)).mono ?_; rintro e w2 ⟨v2, rfl, ho2, hb2⟩; obtain ⟨A2, c2, rfl, _⟩ := ints_of_row ho2; have HO2 := Lib.hid ho2; clear ho2) | (at_builtin; (refine wpList_append_own _ rfl _ _ 87 rfl wr.heap.size 3 i0 (.int .i64 0) 1 8 und_ints hi hz0 hz1 hz2 rfl (by decide) _ _ _ rfl f25_0 ⟨B27, 0, none⟩ 1 1 [.int .i64 g] rfl rfl (one_cell (f27_0.cell 0)) (by simp [Value.oneCell']) (by unfold maxLen; omega) (by omega) hb1.size ?_); intro v3 w3 hown3 hgrow3 _; obtain ⟨A3, c3, rfl⟩ := row_val hown3; have hB3 : Below wr.heap.size w1 w3 := (Below.refl _ _).grown hgrow3 hb1.size (row_block f25_0); have HO3 := Lib.hid (choose_own hown3 (Nat.le_refl _)); clear hown3 hgrow3))
       exact hK _ _ (Below.refl _ _) rfl
      ·intro x w1 hb1 hx K hK0
       have hK := fun v w' hb => hK0 v w' (.inl hb)
       clear hK0
       clear hx hKc
       have b1 : w1.cell? ⟨Bc, 0, none⟩ = some (.func (.func 146) #[] #[.pointer (some ⟨Bs, 0, none⟩), .pointer (some ⟨Ba, 0, none⟩), .pointer (some ⟨Bn, 0, none⟩), .pointer (some ⟨Bc, 0, none⟩)]) := (HC'.out.up hb1).cell 0
       simp only [frameOf, fill, sg, Nat.reduceBEq, if_true, if_false, Nat.reduceAdd, Nat.reduceEqDiff] at hK ⊢
       go_wp2_with (first | (go_at_call 77; refine (Clone_own B0 (.slice A xs.length c) xs _ (HLr.out.up hb1) (by omega)).mono ?_; rintro e w2 ⟨v2, rfl, ho2, hb2⟩; obtain ⟨A2, c2, rfl, _⟩ := ints_of_row ho2; have HO2 := Lib.hid ho2; clear ho2) | (at_builtin; (refine wpList_append_own _ rfl _ _ 87 rfl wr.heap.size 3 i0 (.int .i64 0) 1 8 und_ints hi hz0 hz1 hz2 rfl (by decide) _ _ _ rfl f25_0 ⟨B27, 0, none⟩ 1 1 [.int .i64 g] rfl rfl (one_cell (f27_0.cell 0)) (by simp [Value.oneCell']) (by unfold maxLen; omega) (by omega) hb1.size ?_); intro v3 w3 hown3 hgrow3 _; obtain ⟨A3, c3, rfl⟩ := row_val hown3; have hB3 : Below wr.heap.size w1 w3 := (Below.refl _ _).grown hgrow3 hb1.size (row_block f25_0); have HO3 := Lib.hid (choose_own hown3 (Nat.le_refl _)); clear hown3 hgrow3))
       exact hK _ _ (Below.refl _ _) rfl
      ·intro x w1 hb1 hx K hK0
       have hK := fun v w' hb => hK0 v w' (.inl hb)
       clear hK0
       have e24 : x 24 = .slice A xs.length c := hx 24 (by rfl)
       clear hx hKc
       have b1 : w1.cell? ⟨Bc, 0, none⟩ = some (.func (.func 146) #[] #[.pointer (some ⟨Bs, 0, none⟩), .pointer (some ⟨Ba, 0, none⟩), .pointer (some ⟨Bn, 0, none⟩), .pointer (some ⟨Bc, 0, none⟩)]) := (HC'.out.up hb1).cell 0
       simp only [frameOf, fill, sg, Nat.reduceBEq, if_true, if_false, Nat.reduceAdd, Nat.reduceEqDiff] at hK ⊢
       simp only [e24] at hK ⊢
       clear e24
       go_wp2_with (first | (go_at_call 77; refine (Clone_own B0 (.slice A xs.length c) xs _ (HLr.out.up hb1) (by omega)).mono ?_; rintro e w2 ⟨v2, rfl, ho2, hb2⟩; obtain ⟨A2, c2, rfl, _⟩ := ints_of_row ho2; have HO2 := Lib.hid ho2; clear ho2) | (at_builtin; (refine wpList_append_own _ rfl _ _ 87 rfl wr.heap.size 3 i0 (.int .i64 0) 1 8 und_ints hi hz0 hz1 hz2 rfl (by decide) _ _ _ rfl f25_0 ⟨B27, 0, none⟩ 1 1 [.int .i64 g] rfl rfl (one_cell (f27_0.cell 0)) (by simp [Value.oneCell']) (by unfold maxLen; omega) (by omega) hb1.size ?_); intro v3 w3 hown3 hgrow3 _; obtain ⟨A3, c3, rfl⟩ := row_val hown3; have hB3 : Below wr.heap.size w1 w3 := (Below.refl _ _).grown hgrow3 hb1.size (row_block f25_0); have HO3 := Lib.hid (choose_own hown3 (Nat.le_refl _)); clear hown3 hgrow3))
       exact hK _ _ hb2 ⟨_, _, rfl, HO2.out.mono hb1.size⟩
      ·intro x w1 hb1 hx K hK0
       have hK := fun v w' hb => hK0 v w' (.inl hb)
       clear hK0
       clear hx hKc
       have b1 : w1.cell? ⟨Bc, 0, none⟩ = some (.func (.func 146) #[] #[.pointer (some ⟨Bs, 0, none⟩), .pointer (some ⟨Ba, 0, none⟩), .pointer (some ⟨Bn, 0, none⟩), .pointer (some ⟨Bc, 0, none⟩)]) := (HC'.out.up hb1).cell 0
       simp only [frameOf, fill, sg, Nat.reduceBEq, if_true, if_false, Nat.reduceAdd, Nat.reduceEqDiff] at hK ⊢
       go_wp2_with (first | (go_at_call 77; refine (Clone_own B0 (.slice A xs.length c) xs _ (HLr.out.up hb1) (by omega)).mono ?_; rintro e w2 ⟨v2, rfl, ho2, hb2⟩; obtain ⟨A2, c2, rfl, _⟩ := ints_of_row ho2; have HO2 := Lib.hid ho2; clear ho2) | (at_builtin; (refine wpList_append_own _ rfl _ _ 87 rfl wr.heap.size 3 i0 (.int .i64 0) 1 8 und_ints hi hz0 hz1 hz2 rfl (by decide) _ _ _ rfl f25_0 ⟨B27, 0, none⟩ 1 1 [.int .i64 g] rfl rfl (one_cell (f27_0.cell 0)) (by simp [Value.oneCell']) (by unfold maxLen; omega) (by omega) hb1.size ?_); intro v3 w3 hown3 hgrow3 _; obtain ⟨A3, c3, rfl⟩ := row_val hown3; have hB3 : Below wr.heap.size w1 w3 := (Below.refl _ _).grown hgrow3 hb1.size (row_block f25_0); have HO3 := Lib.hid (choose_own hown3 (Nat.le_refl _)); clear hown3 hgrow3))
       exact hK _ _ (Below.refl _ _) rfl
      ·intro x w1 hb1 hx K hK0
       have hK := fun v w' hb => hK0 v w' (.inl hb)
       clear hK0
       have e26 : x 26 = .int .i64 g := hx 26 (by rfl)
       clear hx hKc
       have b1 : w1.cell? ⟨Bc, 0, none⟩ = some (.func (.func 146) #[] #[.pointer (some ⟨Bs, 0, none⟩), .pointer (some ⟨Ba, 0, none⟩), .pointer (some ⟨Bn, 0, none⟩), .pointer (some ⟨Bc, 0, none⟩)]) := (HC'.out.up hb1).cell 0
       simp only [frameOf, fill, sg, Nat.reduceBEq, if_true, if_false, Nat.reduceAdd, Nat.reduceEqDiff] at hK ⊢
       simp only [e26] at hK ⊢
       clear e26
       go_wp2_with (first | (go_at_call 77; refine (Clone_own B0 (.slice A xs.length c) xs _ (HLr.out.up hb1) (by omega)).mono ?_; rintro e w2 ⟨v2, rfl, ho2, hb2⟩; obtain ⟨A2, c2, rfl, _⟩ := ints_of_row ho2; have HO2 := Lib.hid ho2; clear ho2) | (at_builtin; (refine wpList_append_own _ rfl _ _ 87 rfl wr.heap.size 3 i0 (.int .i64 0) 1 8 und_ints hi hz0 hz1 hz2 rfl (by decide) _ _ _ rfl f25_0 ⟨B27, 0, none⟩ 1 1 [.int .i64 g] rfl rfl (one_cell (f27_0.cell 0)) (by simp [Value.oneCell']) (by unfold maxLen; omega) (by omega) hb1.size ?_); intro v3 w3 hown3 hgrow3 _; obtain ⟨A3, c3, rfl⟩ := row_val hown3; have hB3 : Below wr.heap.size w1 w3 := (Below.refl _ _).grown hgrow3 hb1.size (row_block f25_0); have HO3 := Lib.hid (choose_own hown3 (Nat.le_refl _)); clear hown3 hgrow3))
       exact hK _ _ ((Below.refl _ _).alloc (Nat.le_refl _) _) ⟨_, rfl, Holds.new _ _ _⟩
      ·intro x w1 hb1 hx K hK0
       have hK := fun v w' hb hs => hK0 v w' (.inr ⟨hb, hs⟩)
       clear hK0
       have e25 := hx 25 (by rfl)
       obtain ⟨A25, c25, e25, f25_0⟩ := e25
       have e27 := hx 27 (by rfl)
       obtain ⟨B27, e27, f27_0⟩ := e27
       clear hx hKc
       have b1 : w1.cell? ⟨Bc, 0, none⟩ = some (.func (.func 146) #[] #[.pointer (some ⟨Bs, 0, none⟩), .pointer (some ⟨Ba, 0, none⟩), .pointer (some ⟨Bn, 0, none⟩), .pointer (some ⟨Bc, 0, none⟩)]) := (HC'.out.up hb1).cell 0
       simp only [frameOf, fill, sg, Nat.reduceBEq, if_true, if_false, Nat.reduceAdd, Nat.reduceEqDiff] at hK ⊢
       simp only [e25, e27] at hK ⊢
       clear e25 e27
       go_wp2_with (first | (go_at_call 77; refine (Clone_own B0 (.slice A xs.length c) xs _ (HLr.out.up hb1) (by omega)).mono ?_; rintro e w2 ⟨v2, rfl, ho2, hb2⟩; obtain ⟨A2, c2, rfl, _⟩ := ints_of_row ho2; have HO2 := Lib.hid ho2; clear ho2) | (at_builtin; (refine wpList_append_own _ rfl _ _ 87 rfl wr.heap.size 3 i0 (.int .i64 0) 1 8 und_ints hi hz0 hz1 hz2 rfl (by decide) _ _ _ rfl f25_0 ⟨B27, 0, none⟩ 1 1 [.int .i64 g] rfl rfl (one_cell (f27_0.cell 0)) (by simp [Value.oneCell']) (by unfold maxLen; omega) (by omega) hb1.size ?_); intro v3 w3 hown3 hgrow3 _; obtain ⟨A3, c3, rfl⟩ := row_val hown3; have hB3 : Below wr.heap.size w1 w3 := (Below.refl _ _).grown hgrow3 hb1.size (row_block f25_0); have HO3 := Lib.hid (choose_own hown3 (Nat.le_refl _)); clear hown3 hgrow3))
       refine hK _ _ hB3 ?_ ⟨_, _, rfl, HO3.out⟩
       intro d u hd hne h
       revert h hd hne
       try dsimp only
       split <;> intro hd hne h <;> first
        | exact h
        | exact absurd hd (by decide)
        | exact absurd rfl hne
      ·intro x w1 hb1 hx K hK0
       have hK := fun v w' hb => hK0 v w' (.inl hb)
       clear hK0
       clear hx hKc
       have b1 : w1.cell? ⟨Bc, 0, none⟩ = some (.func (.func 146) #[] #[.pointer (some ⟨Bs, 0, none⟩), .pointer (some ⟨Ba, 0, none⟩), .pointer (some ⟨Bn, 0, none⟩), .pointer (some ⟨Bc, 0, none⟩)]) := (HC'.out.up hb1).cell 0
       simp only [frameOf, fill, sg, Nat.reduceBEq, if_true, if_false, Nat.reduceAdd, Nat.reduceEqDiff] at hK ⊢
       go_wp2_with (first | (go_at_call 77; refine (Clone_own B0 (.slice A xs.length c) xs _ (HLr.out.up hb1) (by omega)).mono ?_; rintro e w2 ⟨v2, rfl, ho2, hb2⟩; obtain ⟨A2, c2, rfl, _⟩ := ints_of_row ho2; have HO2 := Lib.hid ho2; clear ho2) | (at_builtin; (refine wpList_append_own _ rfl _ _ 87 rfl wr.heap.size 3 i0 (.int .i64 0) 1 8 und_ints hi hz0 hz1 hz2 rfl (by decide) _ _ _ rfl f25_0 ⟨B27, 0, none⟩ 1 1 [.int .i64 g] rfl rfl (one_cell (f27_0.cell 0)) (by simp [Value.oneCell']) (by unfold maxLen; omega) (by omega) hb1.size ?_); intro v3 w3 hown3 hgrow3 _; obtain ⟨A3, c3, rfl⟩ := row_val hown3; have hB3 : Below wr.heap.size w1 w3 := (Below.refl _ _).grown hgrow3 hb1.size (row_block f25_0); have HO3 := Lib.hid (choose_own hown3 (Nat.le_refl _)); clear hown3 hgrow3))
       exact hK _ _ (Below.refl _ _) rfl
      ·intro x w1 hb1 hx K hK0
       have hK := fun v w' hb => hK0 v w' (.inl hb)
       clear hK0
       have e29 : x 29 = .int .i64 g := hx 29 (by rfl)
       clear hx hKc
       have b1 : w1.cell? ⟨Bc, 0, none⟩ = some (.func (.func 146) #[] #[.pointer (some ⟨Bs, 0, none⟩), .pointer (some ⟨Ba, 0, none⟩), .pointer (some ⟨Bn, 0, none⟩), .pointer (some ⟨Bc, 0, none⟩)]) := (HC'.out.up hb1).cell 0
       simp only [frameOf, fill, sg, Nat.reduceBEq, if_true, if_false, Nat.reduceAdd, Nat.reduceEqDiff] at hK ⊢
       simp only [e29] at hK ⊢
       clear e29
       go_wp2_with (first | (go_at_call 77; refine (Clone_own B0 (.slice A xs.length c) xs _ (HLr.out.up hb1) (by omega)).mono ?_; rintro e w2 ⟨v2, rfl, ho2, hb2⟩; obtain ⟨A2, c2, rfl, _⟩ := ints_of_row ho2; have HO2 := Lib.hid ho2; clear ho2) | (at_builtin; (refine wpList_append_own _ rfl _ _ 87 rfl wr.heap.size 3 i0 (.int .i64 0) 1 8 und_ints hi hz0 hz1 hz2 rfl (by decide) _ _ _ rfl f25_0 ⟨B27, 0, none⟩ 1 1 [.int .i64 g] rfl rfl (one_cell (f27_0.cell 0)) (by simp [Value.oneCell']) (by unfold maxLen; omega) (by omega) hb1.size ?_); intro v3 w3 hown3 hgrow3 _; obtain ⟨A3, c3, rfl⟩ := row_val hown3; have hB3 : Below wr.heap.size w1 w3 := (Below.refl _ _).grown hgrow3 hb1.size (row_block f25_0); have HO3 := Lib.hid (choose_own hown3 (Nat.le_refl _)); clear hown3 hgrow3))
       exact hK _ _ (Below.refl _ _) rfl
     ·intro x w1 hb1 hx
      have e23 : x 23 = .func (.func 146) #[] #[.pointer (some ⟨Bs, 0, none⟩), .pointer (some ⟨Ba, 0, none⟩), .pointer (some ⟨Bn, 0, none⟩), .pointer (some ⟨Bc, 0, none⟩)] := hx 23 (by decide) (by decide)
      have e24 : x 24 = .slice A xs.length c := hx 24 (by decide) (by decide)
      have e26 : x 26 = .int .i64 g := hx 26 (by decide) (by decide)
      have e28 := hx 28 (by decide) (by decide)
      obtain ⟨A28, c28, e28, f28_0⟩ := e28
      have e29 : x 29 = .int .i64 g := hx 29 (by decide) (by decide)
      have e30 : x 30 = .int .i64 (g + 1) := hx 30 (by decide) (by decide)
      clear hx
      have b1 : w1.cell? ⟨Bc, 0, none⟩ = some (.func (.func 146) #[] #[.pointer (some ⟨Bs, 0, none⟩), .pointer (some ⟨Ba, 0, none⟩), .pointer (some ⟨Bn, 0, none⟩), .pointer (some ⟨Bc, 0, none⟩)]) := (HC'.out.up hb1).cell 0
      simp only [frameOf, fill, List.contains_cons, List.contains_nil, Nat.reduceBEq, Bool.or_false, Bool.false_or, Bool.or_true, Bool.true_or, if_true, if_false, Bool.false_eq_true, Nat.reduceAdd, Nat.zero_add]
      simp only [e23, e24, e26, e28, e29, e30]
      clear e23 e24 e26 e28 e29 e30
      have hS1 := hb1.size
      go_wp2_with (go_at_call 146; (refine (IH.out j (by omega) (g + 1) _ v' (xs ++ [g]) (xss ++ D) _ (by omega) (by have := HG.out; omega) (HS'.out.up hb1) (HN'.out.up hb1) (HC'.out.up hb1) (HA'.out.up hb1) (HL'.out.up hb1) (f28_0.mono hS0) (by simp; omega) (choose_room HX.out HD.out HE.out HG.out)).mono ?_); rintro e w4 ⟨⟨v4, rfl⟩, hk4, hb4, v5, hv5, hl5⟩; have HL5 := Lib.hid hl5; have HV5 := Lib.hid hv5; clear hl5 hv5)
      go_roundw
      case rel => exact choose_next HK.out hb hb1 hk4 hb4 hS0 HV5.out HL5.out HD.out HE.out HG.out hjk
      case measure => simp [intOf]; omega
def ChoicesPost (n size : Nat) (w : World) (e : Ending) (w' : World) : Prop := ∃ v, e = .returned v ∧ Lists w' w.heap.size v (chooseK n size n []) ∧ Below w.heap.size w w'
set_option maxRecDepth 100000 in
set_option maxHeartbeats 2000000 in
theorem choices_any (n size : Nat) (w : World) (hn : n ≤ 10) (hs : size ≤ 1000) : Calls Try.prog 141 #[.int .i64 (n : Int), .int .i64 (size : Int)] w (ChoicesPost n size w) := by
 have hmf : ∀ (fn : Fn) (first cap : Array Value) (w : World), (Instr.makeFunc fn first cap).run Try.prog w = .ok (.func fn first cap) w := fun _ _ _ _ => rfl
 have hcf := cf_choose
 have hr : ([] : List (List Int)).length + (chooseK (n : Int) size n []).length ≤ 100000 := by
  have h1 := chooseK_len (n : Int) size n []
  have h2 : 2 ^ n ≤ 2 ^ 10 := Nat.pow_le_pow_right (by decide) hn
  simp only [List.length_nil]
  omega
 have HR := Lib.hid hr
 clear hr
 go_enter Try.func141, Try.ntmps141
 go_wp2_with (go_at_call 146; (refine (choose_any w.heap.size (w.heap.size + 1) (w.heap.size + 1 + 1) w.heap.size (w.heap.size + 1 + 1 + 1) (n : Int) size (by omega) (by omega) hs (by omega) n 0 (.slice none 0 0) (.slice none 0 0) [] [] _ (by omega) (by omega) zp1 zp1 zp1 zp1 ⟨[], ⟨rfl, .inl ⟨rfl, rfl⟩⟩, trivial⟩ ⟨rfl, .inl ⟨rfl, rfl⟩⟩ (by simp) HR.out).mono ?_); rintro e w4 ⟨⟨v4, rfl⟩, hk4, hb4, v5, hv5, hl5⟩; have c5 : w4.cell? ⟨w.heap.size + 1 + 1, 0, none⟩ = some v5 := hv5.cell 0; have HL5 := Lib.hid hl5; have HB4 : Hid (Below w.heap.size w w4) := Below.trans zg hb4; clear hl5 hv5 hk4 hb4)
 go_ret
 exact ⟨v5, rfl, by simpa using HL5.out, HB4.out⟩
end Go.Proofs.Ytifffonoipapgaa
