/- HeatChecks: its walk. -/
import Derived.Test.YtfghfmlcfbkmjaaHQ
import Derived.Test.YtfghfmlcfbkmjaaAW
set_option linter.unusedSimpArgs false
set_option linter.unusedVariables false
namespace Go.Proofs.Ytfghfmlcfbkmjaa
open Go.RowKit

theorem awake_any (w : World) : Calls Try.prog 10 #[] w fun e w' => e = .returned (.bool true) ∧ Below w.heap.size w w' := Mini.Awake10 w
theorem own_row {w : World} {B b : Nat} {t e : TypeId} {v : Value} {bs : List Bn} {ds : Array Value} (h : OwnBins w B t v bs) (h2 : Holds w b e ds) (ht : t ≠ e) (cs : Array Value) : OwnBins (w.setRow b cs) B t v bs := by
  obtain ⟨hl, h | ⟨k, cap, cur, ev, hB, hg, r⟩⟩ := h
  · exact ⟨hl, .inl h⟩
  · have hk : Holds w k t cur := hg
    exact ⟨hl, .inr ⟨k, cap, cur, ev, hB, (setRow_other w b k cs (holds_ne hk h2 ht)).trans hg, r⟩⟩
set_option maxRecDepth 100000 in
set_option maxHeartbeats 40000000 in
theorem HeatChecks_any (b : Br) (A : Option Addr) (c : Nat) (bs : List Bn) (bin lo hi : Int) (w : World) (hd : bs.length ≤ c) (hm : c ≤ maxLen) (hA : BinsAt w A bs) (hn : A = none → bs.length = 0 ∧ c = 0) :
    Calls Try.prog 3 #[.agg #[.int .i64 b.cool, .int .i64 b.gangs, .int .i64 b.r0, .int .i64 b.r1, .int .i64 b.r2, .int .i64 b.r3, .int .i64 b.r4, .int .i64 b.r5, .slice A bs.length c], .int .i64 bin, .agg #[.int .i64 lo, .int .i64 hi]] w fun e w' => e = .returned (.bool true) ∧ Below w.heap.size w w' := by
  have HA := Lib.hid hA
  have HAN := Lib.hid hn
  have hll : bs.length ≤ 9223372036854775807 := by unfold maxLen at hm; omega
  clear hA hn hm
  obtain ⟨E, hE⟩ : ∃ z, z = barnErr b bs := ⟨_, rfl⟩
  have HEQ := Lib.hid hE
  clear hE
  cases hgt : decide (8 < bs.length) with
  | true =>
    have HGT := Lib.hid hgt
    clear hgt
    go_enter Try.func3, Try.ntmps3
    go_wp2_with fail
    refine (great_any b A c bs.length hll _).mono ?_
    rw [HGT.out]
    rintro e wq ⟨rfl, hbq⟩
    have Hbq := Lib.hid (Holds.up (zp : Holds _ (w.heap.size) 25 #[.int .i64 b.cool, .int .i64 b.gangs, .int .i64 b.r0, .int .i64 b.r1, .int .i64 b.r2, .int .i64 b.r3, .int .i64 b.r4, .int .i64 b.r5, .slice A bs.length c]) hbq)
    have Hdq := Lib.hid (Holds.up (zp : Holds _ (w.heap.size + 1) 27 #[.int .i64 lo, .int .i64 hi]) hbq)
    have HSq : Hid (Below w.heap.size w wq) := Lib.hid (Below.trans (zg) (hbq.mono (by first | exact Nat.le_refl _ | omega | (simp; done) | (simp; omega))))
    have HBq := HSq
    have hsq := HBq.out.size
    have hstq := HSq.out.size
    have HAq := Lib.hid (HA.out.up HSq.out)
    clear hbq
    have kb0 : wq.cell? ⟨w.heap.size, 0, none⟩ = some (.int .i64 b.cool) := Hbq.out.cell 0
    have kb1 : wq.cell? ⟨w.heap.size, 1, none⟩ = some (.int .i64 b.gangs) := Hbq.out.cell 1
    have kb2 : wq.cell? ⟨w.heap.size, 2, none⟩ = some (.int .i64 b.r0) := Hbq.out.cell 2
    have kb3 : wq.cell? ⟨w.heap.size, 3, none⟩ = some (.int .i64 b.r1) := Hbq.out.cell 3
    have kb4 : wq.cell? ⟨w.heap.size, 4, none⟩ = some (.int .i64 b.r2) := Hbq.out.cell 4
    have kb5 : wq.cell? ⟨w.heap.size, 5, none⟩ = some (.int .i64 b.r3) := Hbq.out.cell 5
    have kb6 : wq.cell? ⟨w.heap.size, 6, none⟩ = some (.int .i64 b.r4) := Hbq.out.cell 6
    have kb7 : wq.cell? ⟨w.heap.size, 7, none⟩ = some (.int .i64 b.r5) := Hbq.out.cell 7
    have kb8 : wq.cell? ⟨w.heap.size, 8, none⟩ = some (.slice A bs.length c) := Hbq.out.cell 8
    have lt_b : w.heap.size < wq.heap.size := Hbq.out.lt
    have kd0 : wq.cell? ⟨w.heap.size + 1, 0, none⟩ = some (.int .i64 lo) := Hdq.out.cell 0
    have kd1 : wq.cell? ⟨w.heap.size + 1, 1, none⟩ = some (.int .i64 hi) := Hdq.out.cell 1
    have lt_d : w.heap.size + 1 < wq.heap.size := Hdq.out.lt
    go_wp2_with fail
    refine (awake_any _).mono ?_
    rintro e w40 ⟨rfl, hb40⟩
    go_wp2_with fail
    go_ret
    exact ⟨rfl, HBq.out.trans (hb40.mono hsq)⟩
  | false =>
    have HGT := Lib.hid hgt
    have h8 : bs.length ≤ 8 := by have := of_decide_eq_false hgt; omega
    have h8' : bs.length ≤ 1000 := by omega
    clear hgt
    go_enter Try.func3, Try.ntmps3
    go_wp2_with fail
    refine (great_any b A c bs.length hll _).mono ?_
    rw [HGT.out]
    rintro e wq ⟨rfl, hbq⟩
    have Hbq := Lib.hid (Holds.up (zp : Holds _ (w.heap.size) 25 #[.int .i64 b.cool, .int .i64 b.gangs, .int .i64 b.r0, .int .i64 b.r1, .int .i64 b.r2, .int .i64 b.r3, .int .i64 b.r4, .int .i64 b.r5, .slice A bs.length c]) hbq)
    have Hdq := Lib.hid (Holds.up (zp : Holds _ (w.heap.size + 1) 27 #[.int .i64 lo, .int .i64 hi]) hbq)
    have HSq : Hid (Below w.heap.size w wq) := Lib.hid (Below.trans (zg) (hbq.mono (by first | exact Nat.le_refl _ | omega | (simp; done) | (simp; omega))))
    have HBq := HSq
    have hsq := HBq.out.size
    have hstq := HSq.out.size
    have HAq := Lib.hid (HA.out.up HSq.out)
    clear hbq
    have kb0 : wq.cell? ⟨w.heap.size, 0, none⟩ = some (.int .i64 b.cool) := Hbq.out.cell 0
    have kb1 : wq.cell? ⟨w.heap.size, 1, none⟩ = some (.int .i64 b.gangs) := Hbq.out.cell 1
    have kb2 : wq.cell? ⟨w.heap.size, 2, none⟩ = some (.int .i64 b.r0) := Hbq.out.cell 2
    have kb3 : wq.cell? ⟨w.heap.size, 3, none⟩ = some (.int .i64 b.r1) := Hbq.out.cell 3
    have kb4 : wq.cell? ⟨w.heap.size, 4, none⟩ = some (.int .i64 b.r2) := Hbq.out.cell 4
    have kb5 : wq.cell? ⟨w.heap.size, 5, none⟩ = some (.int .i64 b.r3) := Hbq.out.cell 5
    have kb6 : wq.cell? ⟨w.heap.size, 6, none⟩ = some (.int .i64 b.r4) := Hbq.out.cell 6
    have kb7 : wq.cell? ⟨w.heap.size, 7, none⟩ = some (.int .i64 b.r5) := Hbq.out.cell 7
    have kb8 : wq.cell? ⟨w.heap.size, 8, none⟩ = some (.slice A bs.length c) := Hbq.out.cell 8
    have lt_b : w.heap.size < wq.heap.size := Hbq.out.lt
    have kd0 : wq.cell? ⟨w.heap.size + 1, 0, none⟩ = some (.int .i64 lo) := Hdq.out.cell 0
    have kd1 : wq.cell? ⟨w.heap.size + 1, 1, none⟩ = some (.int .i64 hi) := Hdq.out.cell 1
    have lt_d : w.heap.size + 1 < wq.heap.size := Hdq.out.lt
    go_wp2_with fail
    rename_i Kc hKc
    refine wp_region_partsG (by kernel_rfl) [some 28, some 29, some 30, some 31, some 7, some 8, none, none] (fun jq xq w' => match jq with
      | 0 => xq 28 = .agg #[.int .i64 b.cool, .int .i64 b.gangs, .int .i64 b.r0, .int .i64 b.r1, .int .i64 b.r2, .int .i64 b.r3, .int .i64 b.r4, .int .i64 b.r5, .slice A bs.length c]
      | 1 => ∃ A1 c1, xq 29 = .agg #[.int .i64 b.cool, .int .i64 b.gangs, .int .i64 b.r0, .int .i64 b.r1, .int .i64 b.r2, .int .i64 b.r3, .int .i64 b.r4, .int .i64 b.r5, .slice A1 bs.length c1] ∧ OwnBins w' wq.heap.size 39 (.slice A1 bs.length c1) bs
      | 2 => xq 30 = .agg #[.int .i64 b.cool, .int .i64 b.gangs, .int .i64 b.r0, .int .i64 b.r1, .int .i64 b.r2, .int .i64 b.r3, .int .i64 b.r4, .int .i64 b.r5, .slice A bs.length c]
      | 3 => ∃ A2 c2, xq 31 = .agg #[.int .i64 b.cool, .int .i64 b.gangs, .int .i64 b.r0, .int .i64 b.r1, .int .i64 b.r2, .int .i64 b.r3, .int .i64 b.r4, .int .i64 b.r5, .slice A2 bs.length c2] ∧ OwnBins w' wq.heap.size 91 (.slice A2 bs.length c2) bs
      | 4 => ∃ z, xq 7 = .pointer (some ⟨z, 0, none⟩) ∧ wq.heap.size ≤ z ∧ Holds w' z 25 #[.int .i64 0, .int .i64 0, .int .i64 0, .int .i64 0, .int .i64 0, .int .i64 0, .int .i64 0, .int .i64 0, .slice none 0 0]
      | 5 => ∃ z, xq 8 = .pointer (some ⟨z, 0, none⟩) ∧ wq.heap.size ≤ z ∧ Holds w' z 33 #[.int .i64 0, .int .i64 0, .int .i64 0, .int .i64 0, .int .i64 0, .int .i64 0, .int .i64 0, .int .i64 0, .slice none 0 0]
      | 6 => ∃ z A1 c1, xq 7 = .pointer (some ⟨z, 0, none⟩) ∧ Holds w' z 25 #[.int .i64 b.cool, .int .i64 b.gangs, .int .i64 b.r0, .int .i64 b.r1, .int .i64 b.r2, .int .i64 b.r3, .int .i64 b.r4, .int .i64 b.r5, .slice A1 bs.length c1] ∧ OwnBins w' wq.heap.size 39 (.slice A1 bs.length c1) bs
      | 7 => ∃ z A2 c2, xq 8 = .pointer (some ⟨z, 0, none⟩) ∧ Holds w' z 33 #[.int .i64 b.cool, .int .i64 b.gangs, .int .i64 b.r0, .int .i64 b.r1, .int .i64 b.r2, .int .i64 b.r3, .int .i64 b.r4, .int .i64 b.r5, .slice A2 bs.length c2] ∧ OwnBins w' wq.heap.size 91 (.slice A2 bs.length c2) bs
      | _ => True) [[28], [29], [30], [31], [7], [8], [7], [8]] [(6, 4), (7, 5)] (fun w' => Below wq.heap.size wq w') (by kernel_rfl)  ?_ ?_ (fun w' w'' hb h => h.trans (hb.mono h.size)) (Below.refl _ _) ?_ ?_ ?_
    · intro jq xq xq' wqq h hv
      match jq, h, hv with
      | 0, h, hv => show xq' 28 = .agg #[.int .i64 b.cool, .int .i64 b.gangs, .int .i64 b.r0, .int .i64 b.r1, .int .i64 b.r2, .int .i64 b.r3, .int .i64 b.r4, .int .i64 b.r5, .slice A bs.length c]; rw [← h 28 (by decide)]; exact hv
      | 1, h, hv => show ∃ A1 c1, xq' 29 = .agg #[.int .i64 b.cool, .int .i64 b.gangs, .int .i64 b.r0, .int .i64 b.r1, .int .i64 b.r2, .int .i64 b.r3, .int .i64 b.r4, .int .i64 b.r5, .slice A1 bs.length c1] ∧ OwnBins wqq wq.heap.size 39 (.slice A1 bs.length c1) bs; rw [← h 29 (by decide)]; exact hv
      | 2, h, hv => show xq' 30 = .agg #[.int .i64 b.cool, .int .i64 b.gangs, .int .i64 b.r0, .int .i64 b.r1, .int .i64 b.r2, .int .i64 b.r3, .int .i64 b.r4, .int .i64 b.r5, .slice A bs.length c]; rw [← h 30 (by decide)]; exact hv
      | 3, h, hv => show ∃ A2 c2, xq' 31 = .agg #[.int .i64 b.cool, .int .i64 b.gangs, .int .i64 b.r0, .int .i64 b.r1, .int .i64 b.r2, .int .i64 b.r3, .int .i64 b.r4, .int .i64 b.r5, .slice A2 bs.length c2] ∧ OwnBins wqq wq.heap.size 91 (.slice A2 bs.length c2) bs; rw [← h 31 (by decide)]; exact hv
      | 4, h, hv => show ∃ z, xq' 7 = .pointer (some ⟨z, 0, none⟩) ∧ wq.heap.size ≤ z ∧ Holds wqq z 25 #[.int .i64 0, .int .i64 0, .int .i64 0, .int .i64 0, .int .i64 0, .int .i64 0, .int .i64 0, .int .i64 0, .slice none 0 0]; rw [← h 7 (by decide)]; exact hv
      | 5, h, hv => show ∃ z, xq' 8 = .pointer (some ⟨z, 0, none⟩) ∧ wq.heap.size ≤ z ∧ Holds wqq z 33 #[.int .i64 0, .int .i64 0, .int .i64 0, .int .i64 0, .int .i64 0, .int .i64 0, .int .i64 0, .int .i64 0, .slice none 0 0]; rw [← h 8 (by decide)]; exact hv
      | 6, h, hv => show ∃ z A1 c1, xq' 7 = .pointer (some ⟨z, 0, none⟩) ∧ Holds wqq z 25 #[.int .i64 b.cool, .int .i64 b.gangs, .int .i64 b.r0, .int .i64 b.r1, .int .i64 b.r2, .int .i64 b.r3, .int .i64 b.r4, .int .i64 b.r5, .slice A1 bs.length c1] ∧ OwnBins wqq wq.heap.size 39 (.slice A1 bs.length c1) bs; rw [← h 7 (by decide)]; exact hv
      | 7, h, hv => show ∃ z A2 c2, xq' 8 = .pointer (some ⟨z, 0, none⟩) ∧ Holds wqq z 33 #[.int .i64 b.cool, .int .i64 b.gangs, .int .i64 b.r0, .int .i64 b.r1, .int .i64 b.r2, .int .i64 b.r3, .int .i64 b.r4, .int .i64 b.r5, .slice A2 bs.length c2] ∧ OwnBins wqq wq.heap.size 91 (.slice A2 bs.length c2) bs; rw [← h 8 (by decide)]; exact hv
      | _ + 8, _, _ => trivial
    · intro jq xq wqq w' hb' hv
      match jq, hv with
      | 0, hv => exact hv
      | 1, ⟨b0, b1, h0, h1⟩ => exact ⟨b0, b1, h0, h1.up hb'⟩
      | 2, hv => exact hv
      | 3, ⟨b0, b1, h0, h1⟩ => exact ⟨b0, b1, h0, h1.up hb'⟩
      | 4, ⟨b0, h0, h1, h2⟩ => exact ⟨b0, h0, h1, h2.up hb'⟩
      | 5, ⟨b0, h0, h1, h2⟩ => exact ⟨b0, h0, h1, h2.up hb'⟩
      | 6, ⟨b0, b1, b2, h0, h1, h2⟩ => exact ⟨b0, b1, b2, h0, h1.up hb', h2.up hb'⟩
      | 7, ⟨b0, b1, b2, h0, h1, h2⟩ => exact ⟨b0, b1, b2, h0, h1.up hb', h2.up hb'⟩
      | _ + 8, _ => trivial
    · intro jq hj
      match jq, hj with
      | 0, hj => exact absurd hj (by decide)
      | 1, hj => exact absurd hj (by decide)
      | 2, hj => exact absurd hj (by decide)
      | 3, hj => exact absurd hj (by decide)
      | 4, hj => exact absurd hj (by decide)
      | 5, hj => exact absurd hj (by decide)
      | 6, hj => exact absurd hj (by decide)
      | 7, hj => exact absurd hj (by decide)
      | _ + 8, _ => trivial
    · refine ⟨?_, ?_, ?_, ?_, ?_, ?_, ?_, ?_, trivial⟩
      · intro xq wa hba hx K hK0
        have hK := fun v w' hb => hK0 v w' (.inl hb)
        clear hx hKc hK0
        have kb0' : wa.cell? ⟨w.heap.size, 0, none⟩ = some (.int .i64 b.cool) := (Hbq.out.up hba).cell 0
        have kb1' : wa.cell? ⟨w.heap.size, 1, none⟩ = some (.int .i64 b.gangs) := (Hbq.out.up hba).cell 1
        have kb2' : wa.cell? ⟨w.heap.size, 2, none⟩ = some (.int .i64 b.r0) := (Hbq.out.up hba).cell 2
        have kb3' : wa.cell? ⟨w.heap.size, 3, none⟩ = some (.int .i64 b.r1) := (Hbq.out.up hba).cell 3
        have kb4' : wa.cell? ⟨w.heap.size, 4, none⟩ = some (.int .i64 b.r2) := (Hbq.out.up hba).cell 4
        have kb5' : wa.cell? ⟨w.heap.size, 5, none⟩ = some (.int .i64 b.r3) := (Hbq.out.up hba).cell 5
        have kb6' : wa.cell? ⟨w.heap.size, 6, none⟩ = some (.int .i64 b.r4) := (Hbq.out.up hba).cell 6
        have kb7' : wa.cell? ⟨w.heap.size, 7, none⟩ = some (.int .i64 b.r5) := (Hbq.out.up hba).cell 7
        have kb8' : wa.cell? ⟨w.heap.size, 8, none⟩ = some (.slice A bs.length c) := (Hbq.out.up hba).cell 8
        simp only [frameOf, fill, setSlot, List.contains_cons, List.contains_nil, Nat.reduceBEq, Bool.or_false, Bool.false_or, Bool.or_true, Bool.true_or, if_true, if_false, Bool.false_eq_true, Nat.reduceAdd, Nat.reduceEqDiff, List.getD_cons_zero, List.getD_cons_succ, Nat.zero_add, show slotsOf [some 28, some 29, some 30, some 31, some 7, some 8, none, none] = [28, 29, 30, 31, 7, 8] from rfl] at hK ⊢
        go_wp2_with (fail)
        exact hK _ _ (Below.refl _ _) rfl
      · intro xq wa hba hx K hK0
        have hK := fun v w' hb => hK0 v w' (.inl hb)
        have e28 : xq 28 = .agg #[.int .i64 b.cool, .int .i64 b.gangs, .int .i64 b.r0, .int .i64 b.r1, .int .i64 b.r2, .int .i64 b.r3, .int .i64 b.r4, .int .i64 b.r5, .slice A bs.length c] := hx 0 (by rfl) (by rfl)
        clear hx hKc hK0
        simp only [frameOf, fill, setSlot, List.contains_cons, List.contains_nil, Nat.reduceBEq, Bool.or_false, Bool.false_or, Bool.or_true, Bool.true_or, if_true, if_false, Bool.false_eq_true, Nat.reduceAdd, Nat.reduceEqDiff, List.getD_cons_zero, List.getD_cons_succ, Nat.zero_add, show slotsOf [some 28, some 29, some 30, some 31, some 7, some 8, none, none] = [28, 29, 30, 31, 7, 8] from rfl] at hK ⊢
        simp only [e28] at hK ⊢
        clear e28
        go_wp2_with (go_at_call 11; refine (Own_any b A c bs _ (HAq.out.up hba) h8' HAN.out).mono ?_; rintro e w2_ ⟨G1, d1, rfl, hown, hb_⟩)
        exact hK _ _ hb_ ⟨_, _, rfl, rowq_mono hown hba.size⟩
      · intro xq wa hba hx K hK0
        have hK := fun v w' hb => hK0 v w' (.inl hb)
        clear hx hKc hK0
        have kb0' : wa.cell? ⟨w.heap.size, 0, none⟩ = some (.int .i64 b.cool) := (Hbq.out.up hba).cell 0
        have kb1' : wa.cell? ⟨w.heap.size, 1, none⟩ = some (.int .i64 b.gangs) := (Hbq.out.up hba).cell 1
        have kb2' : wa.cell? ⟨w.heap.size, 2, none⟩ = some (.int .i64 b.r0) := (Hbq.out.up hba).cell 2
        have kb3' : wa.cell? ⟨w.heap.size, 3, none⟩ = some (.int .i64 b.r1) := (Hbq.out.up hba).cell 3
        have kb4' : wa.cell? ⟨w.heap.size, 4, none⟩ = some (.int .i64 b.r2) := (Hbq.out.up hba).cell 4
        have kb5' : wa.cell? ⟨w.heap.size, 5, none⟩ = some (.int .i64 b.r3) := (Hbq.out.up hba).cell 5
        have kb6' : wa.cell? ⟨w.heap.size, 6, none⟩ = some (.int .i64 b.r4) := (Hbq.out.up hba).cell 6
        have kb7' : wa.cell? ⟨w.heap.size, 7, none⟩ = some (.int .i64 b.r5) := (Hbq.out.up hba).cell 7
        have kb8' : wa.cell? ⟨w.heap.size, 8, none⟩ = some (.slice A bs.length c) := (Hbq.out.up hba).cell 8
        simp only [frameOf, fill, setSlot, List.contains_cons, List.contains_nil, Nat.reduceBEq, Bool.or_false, Bool.false_or, Bool.or_true, Bool.true_or, if_true, if_false, Bool.false_eq_true, Nat.reduceAdd, Nat.reduceEqDiff, List.getD_cons_zero, List.getD_cons_succ, Nat.zero_add, show slotsOf [some 28, some 29, some 30, some 31, some 7, some 8, none, none] = [28, 29, 30, 31, 7, 8] from rfl] at hK ⊢
        go_wp2_with (fail)
        exact hK _ _ (Below.refl _ _) rfl
      · intro xq wa hba hx K hK0
        have hK := fun v w' hb => hK0 v w' (.inl hb)
        have e30 : xq 30 = .agg #[.int .i64 b.cool, .int .i64 b.gangs, .int .i64 b.r0, .int .i64 b.r1, .int .i64 b.r2, .int .i64 b.r3, .int .i64 b.r4, .int .i64 b.r5, .slice A bs.length c] := hx 2 (by rfl) (by rfl)
        clear hx hKc hK0
        simp only [frameOf, fill, setSlot, List.contains_cons, List.contains_nil, Nat.reduceBEq, Bool.or_false, Bool.false_or, Bool.or_true, Bool.true_or, if_true, if_false, Bool.false_eq_true, Nat.reduceAdd, Nat.reduceEqDiff, List.getD_cons_zero, List.getD_cons_succ, Nat.zero_add, show slotsOf [some 28, some 29, some 30, some 31, some 7, some 8, none, none] = [28, 29, 30, 31, 7, 8] from rfl] at hK ⊢
        simp only [e30] at hK ⊢
        clear e30
        go_wp2_with (go_at_call 12; refine (theirs_any b A c bs _ (HAq.out.up hba) h8').mono ?_; rintro e w2_ ⟨G1, d1, rfl, hown, hb_⟩)
        exact hK _ _ hb_ ⟨_, _, rfl, rowq_mono hown hba.size⟩
      · intro xq wa hba hx K hK0
        have hK := fun v w' hb => hK0 v w' (.inl hb)
        clear hx hKc hK0
        simp only [frameOf, fill, setSlot, List.contains_cons, List.contains_nil, Nat.reduceBEq, Bool.or_false, Bool.false_or, Bool.or_true, Bool.true_or, if_true, if_false, Bool.false_eq_true, Nat.reduceAdd, Nat.reduceEqDiff, List.getD_cons_zero, List.getD_cons_succ, Nat.zero_add, show slotsOf [some 28, some 29, some 30, some 31, some 7, some 8, none, none] = [28, 29, 30, 31, 7, 8] from rfl] at hK ⊢
        go_wp2_with (fail)
        exact hK _ _ ((Below.refl _ _).alloc (Nat.le_refl _) _) ⟨_, rfl, hba.size, Holds.new _ _ _⟩
      · intro xq wa hba hx K hK0
        have hK := fun v w' hb => hK0 v w' (.inl hb)
        clear hx hKc hK0
        simp only [frameOf, fill, setSlot, List.contains_cons, List.contains_nil, Nat.reduceBEq, Bool.or_false, Bool.false_or, Bool.or_true, Bool.true_or, if_true, if_false, Bool.false_eq_true, Nat.reduceAdd, Nat.reduceEqDiff, List.getD_cons_zero, List.getD_cons_succ, Nat.zero_add, show slotsOf [some 28, some 29, some 30, some 31, some 7, some 8, none, none] = [28, 29, 30, 31, 7, 8] from rfl] at hK ⊢
        go_wp2_with (fail)
        exact hK _ _ ((Below.refl _ _).alloc (Nat.le_refl _) _) ⟨_, rfl, hba.size, Holds.new _ _ _⟩
      · intro xq wa hba hx K hK0
        have hK := fun v w' hb => hK0 v w' (.inr hb)
        obtain ⟨A129, c129, e29, f29_0⟩ := hx 1 (by rfl) (by rfl)
        obtain ⟨z7, e7, f7_0, f7_1⟩ := hx 4 (by rfl) (by rfl)
        clear hx hKc hK0
        have kb0 : wa.cell? ⟨z7, 0, none⟩ = some (.int .i64 0) := f7_1.cell 0
        have kb1 : wa.cell? ⟨z7, 1, none⟩ = some (.int .i64 0) := f7_1.cell 1
        have kb2 : wa.cell? ⟨z7, 2, none⟩ = some (.int .i64 0) := f7_1.cell 2
        have kb3 : wa.cell? ⟨z7, 3, none⟩ = some (.int .i64 0) := f7_1.cell 3
        have kb4 : wa.cell? ⟨z7, 4, none⟩ = some (.int .i64 0) := f7_1.cell 4
        have kb5 : wa.cell? ⟨z7, 5, none⟩ = some (.int .i64 0) := f7_1.cell 5
        have kb6 : wa.cell? ⟨z7, 6, none⟩ = some (.int .i64 0) := f7_1.cell 6
        have kb7 : wa.cell? ⟨z7, 7, none⟩ = some (.int .i64 0) := f7_1.cell 7
        have kb8 : wa.cell? ⟨z7, 8, none⟩ = some (.slice none 0 0) := f7_1.cell 8
        have zb0 : wa.frozen? ⟨z7, 0, none⟩ = false := f7_1.frozen 0
        have zb1 : wa.frozen? ⟨z7, 1, none⟩ = false := f7_1.frozen 1
        have zb2 : wa.frozen? ⟨z7, 2, none⟩ = false := f7_1.frozen 2
        have zb3 : wa.frozen? ⟨z7, 3, none⟩ = false := f7_1.frozen 3
        have zb4 : wa.frozen? ⟨z7, 4, none⟩ = false := f7_1.frozen 4
        have zb5 : wa.frozen? ⟨z7, 5, none⟩ = false := f7_1.frozen 5
        have zb6 : wa.frozen? ⟨z7, 6, none⟩ = false := f7_1.frozen 6
        have zb7 : wa.frozen? ⟨z7, 7, none⟩ = false := f7_1.frozen 7
        have zb8 : wa.frozen? ⟨z7, 8, none⟩ = false := f7_1.frozen 8
        simp only [frameOf, fill, setSlot, List.contains_cons, List.contains_nil, Nat.reduceBEq, Bool.or_false, Bool.false_or, Bool.or_true, Bool.true_or, if_true, if_false, Bool.false_eq_true, Nat.reduceAdd, Nat.reduceEqDiff, List.getD_cons_zero, List.getD_cons_succ, Nat.zero_add, show slotsOf [some 28, some 29, some 30, some 31, some 7, some 8, none, none] = [28, 29, 30, 31, 7, 8] from rfl] at hK ⊢
        have E29 := Lib.hid e29
        have E7 := Lib.hid e7
        simp only [e29, e7] at hK ⊢
        clear e29 e7
        go_wp2_with (fail)
        refine hK undef _ ⟨(by have h := hba; exact (zg)), ?_⟩ ⟨_, _, _, rfl, Holds.set9 _ _ _ _ _ _ _ _ _ f7_1, own_set9 f29_0 f7_1 (by decide)⟩
        intro jq xq hd hne hv
        match jq, hd, hne, hv with
        | 0, _, _, hv => exact hv
        | 1, _, _, hv => obtain ⟨a1_, d1_, e1, h1⟩ := hv; exact ⟨a1_, d1_, e1, own_set9 h1 f7_1 (by decide)⟩
        | 2, _, _, hv => exact hv
        | 3, _, _, hv => obtain ⟨a1_, d1_, e1, h1⟩ := hv; exact ⟨a1_, d1_, e1, own_set9 h1 f7_1 (by decide)⟩
        | 4, hd, _, _ => exact absurd hd (by decide)
        | 5, _, _, hv => obtain ⟨b_, e1, h0, h1⟩ := hv; exact ⟨b_, e1, h0, h1.set9_ne f7_1 (by decide)⟩
        | 6, _, hne, _ => exact absurd rfl hne
        | 7, _, _, hv => obtain ⟨b_, a1_, d1_, e1, h0, h1⟩ := hv; exact ⟨b_, a1_, d1_, e1, h0.set9_ne f7_1 (by decide), own_set9 h1 f7_1 (by decide)⟩
        | _ + 8, _, _, _ => trivial
      · intro xq wa hba hx K hK0
        have hK := fun v w' hb => hK0 v w' (.inr hb)
        obtain ⟨A231, c231, e31, f31_0⟩ := hx 3 (by rfl) (by rfl)
        obtain ⟨z8, e8, f8_0, f8_1⟩ := hx 5 (by rfl) (by rfl)
        clear hx hKc hK0
        have kb0 : wa.cell? ⟨z8, 0, none⟩ = some (.int .i64 0) := f8_1.cell 0
        have kb1 : wa.cell? ⟨z8, 1, none⟩ = some (.int .i64 0) := f8_1.cell 1
        have kb2 : wa.cell? ⟨z8, 2, none⟩ = some (.int .i64 0) := f8_1.cell 2
        have kb3 : wa.cell? ⟨z8, 3, none⟩ = some (.int .i64 0) := f8_1.cell 3
        have kb4 : wa.cell? ⟨z8, 4, none⟩ = some (.int .i64 0) := f8_1.cell 4
        have kb5 : wa.cell? ⟨z8, 5, none⟩ = some (.int .i64 0) := f8_1.cell 5
        have kb6 : wa.cell? ⟨z8, 6, none⟩ = some (.int .i64 0) := f8_1.cell 6
        have kb7 : wa.cell? ⟨z8, 7, none⟩ = some (.int .i64 0) := f8_1.cell 7
        have kb8 : wa.cell? ⟨z8, 8, none⟩ = some (.slice none 0 0) := f8_1.cell 8
        have zb0 : wa.frozen? ⟨z8, 0, none⟩ = false := f8_1.frozen 0
        have zb1 : wa.frozen? ⟨z8, 1, none⟩ = false := f8_1.frozen 1
        have zb2 : wa.frozen? ⟨z8, 2, none⟩ = false := f8_1.frozen 2
        have zb3 : wa.frozen? ⟨z8, 3, none⟩ = false := f8_1.frozen 3
        have zb4 : wa.frozen? ⟨z8, 4, none⟩ = false := f8_1.frozen 4
        have zb5 : wa.frozen? ⟨z8, 5, none⟩ = false := f8_1.frozen 5
        have zb6 : wa.frozen? ⟨z8, 6, none⟩ = false := f8_1.frozen 6
        have zb7 : wa.frozen? ⟨z8, 7, none⟩ = false := f8_1.frozen 7
        have zb8 : wa.frozen? ⟨z8, 8, none⟩ = false := f8_1.frozen 8
        simp only [frameOf, fill, setSlot, List.contains_cons, List.contains_nil, Nat.reduceBEq, Bool.or_false, Bool.false_or, Bool.or_true, Bool.true_or, if_true, if_false, Bool.false_eq_true, Nat.reduceAdd, Nat.reduceEqDiff, List.getD_cons_zero, List.getD_cons_succ, Nat.zero_add, show slotsOf [some 28, some 29, some 30, some 31, some 7, some 8, none, none] = [28, 29, 30, 31, 7, 8] from rfl] at hK ⊢
        have E31 := Lib.hid e31
        have E8 := Lib.hid e8
        simp only [e31, e8] at hK ⊢
        clear e31 e8
        go_wp2_with (fail)
        refine hK undef _ ⟨(by have h := hba; exact (zg)), ?_⟩ ⟨_, _, _, rfl, Holds.set9 _ _ _ _ _ _ _ _ _ f8_1, own_set9 f31_0 f8_1 (by decide)⟩
        intro jq xq hd hne hv
        match jq, hd, hne, hv with
        | 0, _, _, hv => exact hv
        | 1, _, _, hv => obtain ⟨a1_, d1_, e1, h1⟩ := hv; exact ⟨a1_, d1_, e1, own_set9 h1 f8_1 (by decide)⟩
        | 2, _, _, hv => exact hv
        | 3, _, _, hv => obtain ⟨a1_, d1_, e1, h1⟩ := hv; exact ⟨a1_, d1_, e1, own_set9 h1 f8_1 (by decide)⟩
        | 4, _, _, hv => obtain ⟨b_, e1, h0, h1⟩ := hv; exact ⟨b_, e1, h0, h1.set9_ne f8_1 (by decide)⟩
        | 5, hd, _, _ => exact absurd hd (by decide)
        | 6, _, _, hv => obtain ⟨b_, a1_, d1_, e1, h0, h1⟩ := hv; exact ⟨b_, a1_, d1_, e1, h0.set9_ne f8_1 (by decide), own_set9 h1 f8_1 (by decide)⟩
        | 7, _, hne, _ => exact absurd rfl hne
        | _ + 8, _, _, _ => trivial
    · intro xq wa hba hx
      have e28 : xq 28 = .agg #[.int .i64 b.cool, .int .i64 b.gangs, .int .i64 b.r0, .int .i64 b.r1, .int .i64 b.r2, .int .i64 b.r3, .int .i64 b.r4, .int .i64 b.r5, .slice A bs.length c] := hx 0 (by decide)
      obtain ⟨A129, c129, e29, f29_0⟩ := hx 1 (by decide)
      have e30 : xq 30 = .agg #[.int .i64 b.cool, .int .i64 b.gangs, .int .i64 b.r0, .int .i64 b.r1, .int .i64 b.r2, .int .i64 b.r3, .int .i64 b.r4, .int .i64 b.r5, .slice A bs.length c] := hx 2 (by decide)
      obtain ⟨A231, c231, e31, f31_0⟩ := hx 3 (by decide)
      obtain ⟨zn6, A1n6, c1n6, fn6_0, fn6_1, fn6_2⟩ := hx 6 (by decide)
      obtain ⟨zn7, A2n7, c2n7, fn7_0, fn7_1, fn7_2⟩ := hx 7 (by decide)
      clear hx
      simp only [frameOf, fill, setSlot, List.contains_cons, List.contains_nil, Nat.reduceBEq, Bool.or_false, Bool.false_or, Bool.or_true, Bool.true_or, if_true, if_false, Bool.false_eq_true, Nat.reduceAdd, Nat.reduceEqDiff, List.getD_cons_zero, List.getD_cons_succ, Nat.zero_add, show slotsOf [some 28, some 29, some 30, some 31, some 7, some 8, none, none] = [28, 29, 30, 31, 7, 8] from rfl]
      simp only [e28, e29, e30, e31, fn6_0, fn7_0]
      clear e28 e29 e30 e31 fn6_0 fn7_0
      refine hKc _ _ ?_
      have HSa := Lib.hid hba
      have HBa := Lib.hid (HBq.out.trans (hba.mono hsq))
      have hsa := HBa.out.size
      have hsta := hba.size
      have Hoa := Lib.hid fn6_1
      have Hxa := Lib.hid fn7_1
      have HPa := Lib.hid (OwnBins.at_ fn6_2).1
      have HPN := Lib.hid (OwnBins.at_ fn6_2).2
      have HMa := Lib.hid (OwnBins.at_ fn7_2).1
      clear fn6_1 fn7_1 fn6_2 fn7_2
      have Hba := Lib.hid (Hbq.out.up hba)
      have Hda := Lib.hid (Hdq.out.up hba)
      have HAa := Lib.hid (HAq.out.up hba)
      clear hba
      clear kb0 kb1 kb2 kb3 kb4 kb5 kb6 kb7 kb8 lt_b kd0 kd1 lt_d
      have ko0 : wa.cell? ⟨zn6, 0, none⟩ = some (.int .i64 b.cool) := Hoa.out.cell 0
      have ko1 : wa.cell? ⟨zn6, 1, none⟩ = some (.int .i64 b.gangs) := Hoa.out.cell 1
      have ko2 : wa.cell? ⟨zn6, 2, none⟩ = some (.int .i64 b.r0) := Hoa.out.cell 2
      have ko3 : wa.cell? ⟨zn6, 3, none⟩ = some (.int .i64 b.r1) := Hoa.out.cell 3
      have ko4 : wa.cell? ⟨zn6, 4, none⟩ = some (.int .i64 b.r2) := Hoa.out.cell 4
      have ko5 : wa.cell? ⟨zn6, 5, none⟩ = some (.int .i64 b.r3) := Hoa.out.cell 5
      have ko6 : wa.cell? ⟨zn6, 6, none⟩ = some (.int .i64 b.r4) := Hoa.out.cell 6
      have ko7 : wa.cell? ⟨zn6, 7, none⟩ = some (.int .i64 b.r5) := Hoa.out.cell 7
      have ko8 : wa.cell? ⟨zn6, 8, none⟩ = some (.slice A1n6 bs.length c1n6) := Hoa.out.cell 8
      have lt_o : zn6 < wa.heap.size := Hoa.out.lt
      have kx0 : wa.cell? ⟨zn7, 0, none⟩ = some (.int .i64 b.cool) := Hxa.out.cell 0
      have kx1 : wa.cell? ⟨zn7, 1, none⟩ = some (.int .i64 b.gangs) := Hxa.out.cell 1
      have kx2 : wa.cell? ⟨zn7, 2, none⟩ = some (.int .i64 b.r0) := Hxa.out.cell 2
      have kx3 : wa.cell? ⟨zn7, 3, none⟩ = some (.int .i64 b.r1) := Hxa.out.cell 3
      have kx4 : wa.cell? ⟨zn7, 4, none⟩ = some (.int .i64 b.r2) := Hxa.out.cell 4
      have kx5 : wa.cell? ⟨zn7, 5, none⟩ = some (.int .i64 b.r3) := Hxa.out.cell 5
      have kx6 : wa.cell? ⟨zn7, 6, none⟩ = some (.int .i64 b.r4) := Hxa.out.cell 6
      have kx7 : wa.cell? ⟨zn7, 7, none⟩ = some (.int .i64 b.r5) := Hxa.out.cell 7
      have kx8 : wa.cell? ⟨zn7, 8, none⟩ = some (.slice A2n7 bs.length c2n7) := Hxa.out.cell 8
      have lt_x : zn7 < wa.heap.size := Hxa.out.lt
      go_wp2_with fail
      refine (refCheck_any b A2n7 c2n7 bs _ (HMa.out.up (zg)) h8').mono ?_
      rw [← HEQ.out]
      rintro e wb ⟨rfl, hbb⟩
      have Hbb := Lib.hid (Holds.up (by have h := Hba.out; exact zp : Holds _ (w.heap.size) 25 #[.int .i64 b.cool, .int .i64 b.gangs, .int .i64 b.r0, .int .i64 b.r1, .int .i64 b.r2, .int .i64 b.r3, .int .i64 b.r4, .int .i64 b.r5, .slice A bs.length c]) hbb)
      have Hdb := Lib.hid (Holds.up (by have h := Hda.out; exact zp : Holds _ (w.heap.size + 1) 27 #[.int .i64 lo, .int .i64 hi]) hbb)
      have Hob := Lib.hid (Holds.up (by have h := Hoa.out; exact zp : Holds _ (zn6) 25 #[.int .i64 b.cool, .int .i64 b.gangs, .int .i64 b.r0, .int .i64 b.r1, .int .i64 b.r2, .int .i64 b.r3, .int .i64 b.r4, .int .i64 b.r5, .slice A1n6 bs.length c1n6]) hbb)
      have Hxb := Lib.hid (Holds.up (by have h := Hxa.out; exact zp : Holds _ (zn7) 33 #[.int .i64 b.cool, .int .i64 b.gangs, .int .i64 b.r0, .int .i64 b.r1, .int .i64 b.r2, .int .i64 b.r3, .int .i64 b.r4, .int .i64 b.r5, .slice A2n7 bs.length c2n7]) hbb)
      have HSb : Hid (Below wa.heap.size wa wb) := Lib.hid (Below.trans (zg) (hbb.mono (by first | exact Nat.le_refl _ | omega | (simp; done) | (simp; omega))))
      have HBb : Hid (Below w.heap.size w wb) := Lib.hid (HBa.out.trans (HSb.out.mono hsa))
      have hsb := HBb.out.size
      have hstb := HSb.out.size
      have HAb := Lib.hid (HAa.out.up HSb.out)
      have HPb := Lib.hid (HPa.out.up HSb.out)
      have HMb := Lib.hid (HMa.out.up HSb.out)
      clear hbb
      clear ko0 ko1 ko2 ko3 ko4 ko5 ko6 ko7 ko8 lt_o kx0 kx1 kx2 kx3 kx4 kx5 kx6 kx7 kx8 lt_x
      have ko0 : wb.cell? ⟨zn6, 0, none⟩ = some (.int .i64 b.cool) := Hob.out.cell 0
      have ko1 : wb.cell? ⟨zn6, 1, none⟩ = some (.int .i64 b.gangs) := Hob.out.cell 1
      have ko2 : wb.cell? ⟨zn6, 2, none⟩ = some (.int .i64 b.r0) := Hob.out.cell 2
      have ko3 : wb.cell? ⟨zn6, 3, none⟩ = some (.int .i64 b.r1) := Hob.out.cell 3
      have ko4 : wb.cell? ⟨zn6, 4, none⟩ = some (.int .i64 b.r2) := Hob.out.cell 4
      have ko5 : wb.cell? ⟨zn6, 5, none⟩ = some (.int .i64 b.r3) := Hob.out.cell 5
      have ko6 : wb.cell? ⟨zn6, 6, none⟩ = some (.int .i64 b.r4) := Hob.out.cell 6
      have ko7 : wb.cell? ⟨zn6, 7, none⟩ = some (.int .i64 b.r5) := Hob.out.cell 7
      have ko8 : wb.cell? ⟨zn6, 8, none⟩ = some (.slice A1n6 bs.length c1n6) := Hob.out.cell 8
      have lt_o : zn6 < wb.heap.size := Hob.out.lt
      go_wp2_with fail
      refine (Check_any b A1n6 c1n6 bs _ (HPb.out.up (zg)) h8').mono ?_
      rw [← HEQ.out]
      rintro e wc ⟨rfl, hbc⟩
      have Hbc := Lib.hid (Holds.up (by have h := Hbb.out; exact zp : Holds _ (w.heap.size) 25 #[.int .i64 b.cool, .int .i64 b.gangs, .int .i64 b.r0, .int .i64 b.r1, .int .i64 b.r2, .int .i64 b.r3, .int .i64 b.r4, .int .i64 b.r5, .slice A bs.length c]) hbc)
      have Hdc := Lib.hid (Holds.up (by have h := Hdb.out; exact zp : Holds _ (w.heap.size + 1) 27 #[.int .i64 lo, .int .i64 hi]) hbc)
      have Hoc := Lib.hid (Holds.up (by have h := Hob.out; exact zp : Holds _ (zn6) 25 #[.int .i64 b.cool, .int .i64 b.gangs, .int .i64 b.r0, .int .i64 b.r1, .int .i64 b.r2, .int .i64 b.r3, .int .i64 b.r4, .int .i64 b.r5, .slice A1n6 bs.length c1n6]) hbc)
      have Hxc := Lib.hid (Holds.up (by have h := Hxb.out; exact zp : Holds _ (zn7) 33 #[.int .i64 b.cool, .int .i64 b.gangs, .int .i64 b.r0, .int .i64 b.r1, .int .i64 b.r2, .int .i64 b.r3, .int .i64 b.r4, .int .i64 b.r5, .slice A2n7 bs.length c2n7]) hbc)
      have HSc : Hid (Below wb.heap.size wb wc) := Lib.hid (Below.trans (zg) (hbc.mono (by first | exact Nat.le_refl _ | omega | (simp; done) | (simp; omega))))
      have HBc : Hid (Below w.heap.size w wc) := Lib.hid (HBb.out.trans (HSc.out.mono hsb))
      have hsc := HBc.out.size
      have hstc := HSc.out.size
      have HAc := Lib.hid (HAb.out.up HSc.out)
      have HPc := Lib.hid (HPb.out.up HSc.out)
      have HMc := Lib.hid (HMb.out.up HSc.out)
      clear hbc
      clear ko0 ko1 ko2 ko3 ko4 ko5 ko6 ko7 ko8 lt_o
      have kb0 : wc.cell? ⟨w.heap.size, 0, none⟩ = some (.int .i64 b.cool) := Hbc.out.cell 0
      have kb1 : wc.cell? ⟨w.heap.size, 1, none⟩ = some (.int .i64 b.gangs) := Hbc.out.cell 1
      have kb2 : wc.cell? ⟨w.heap.size, 2, none⟩ = some (.int .i64 b.r0) := Hbc.out.cell 2
      have kb3 : wc.cell? ⟨w.heap.size, 3, none⟩ = some (.int .i64 b.r1) := Hbc.out.cell 3
      have kb4 : wc.cell? ⟨w.heap.size, 4, none⟩ = some (.int .i64 b.r2) := Hbc.out.cell 4
      have kb5 : wc.cell? ⟨w.heap.size, 5, none⟩ = some (.int .i64 b.r3) := Hbc.out.cell 5
      have kb6 : wc.cell? ⟨w.heap.size, 6, none⟩ = some (.int .i64 b.r4) := Hbc.out.cell 6
      have kb7 : wc.cell? ⟨w.heap.size, 7, none⟩ = some (.int .i64 b.r5) := Hbc.out.cell 7
      have kb8 : wc.cell? ⟨w.heap.size, 8, none⟩ = some (.slice A bs.length c) := Hbc.out.cell 8
      have lt_b : w.heap.size < wc.heap.size := Hbc.out.lt
      have kd0 : wc.cell? ⟨w.heap.size + 1, 0, none⟩ = some (.int .i64 lo) := Hdc.out.cell 0
      have kd1 : wc.cell? ⟨w.heap.size + 1, 1, none⟩ = some (.int .i64 hi) := Hdc.out.cell 1
      have lt_d : w.heap.size + 1 < wc.heap.size := Hdc.out.lt
      have ko0 : wc.cell? ⟨zn6, 0, none⟩ = some (.int .i64 b.cool) := Hoc.out.cell 0
      have ko1 : wc.cell? ⟨zn6, 1, none⟩ = some (.int .i64 b.gangs) := Hoc.out.cell 1
      have ko2 : wc.cell? ⟨zn6, 2, none⟩ = some (.int .i64 b.r0) := Hoc.out.cell 2
      have ko3 : wc.cell? ⟨zn6, 3, none⟩ = some (.int .i64 b.r1) := Hoc.out.cell 3
      have ko4 : wc.cell? ⟨zn6, 4, none⟩ = some (.int .i64 b.r2) := Hoc.out.cell 4
      have ko5 : wc.cell? ⟨zn6, 5, none⟩ = some (.int .i64 b.r3) := Hoc.out.cell 5
      have ko6 : wc.cell? ⟨zn6, 6, none⟩ = some (.int .i64 b.r4) := Hoc.out.cell 6
      have ko7 : wc.cell? ⟨zn6, 7, none⟩ = some (.int .i64 b.r5) := Hoc.out.cell 7
      have ko8 : wc.cell? ⟨zn6, 8, none⟩ = some (.slice A1n6 bs.length c1n6) := Hoc.out.cell 8
      have lt_o : zn6 < wc.heap.size := Hoc.out.lt
      have kx0 : wc.cell? ⟨zn7, 0, none⟩ = some (.int .i64 b.cool) := Hxc.out.cell 0
      have kx1 : wc.cell? ⟨zn7, 1, none⟩ = some (.int .i64 b.gangs) := Hxc.out.cell 1
      have kx2 : wc.cell? ⟨zn7, 2, none⟩ = some (.int .i64 b.r0) := Hxc.out.cell 2
      have kx3 : wc.cell? ⟨zn7, 3, none⟩ = some (.int .i64 b.r1) := Hxc.out.cell 3
      have kx4 : wc.cell? ⟨zn7, 4, none⟩ = some (.int .i64 b.r2) := Hxc.out.cell 4
      have kx5 : wc.cell? ⟨zn7, 5, none⟩ = some (.int .i64 b.r3) := Hxc.out.cell 5
      have kx6 : wc.cell? ⟨zn7, 6, none⟩ = some (.int .i64 b.r4) := Hxc.out.cell 6
      have kx7 : wc.cell? ⟨zn7, 7, none⟩ = some (.int .i64 b.r5) := Hxc.out.cell 7
      have kx8 : wc.cell? ⟨zn7, 8, none⟩ = some (.slice A2n7 bs.length c2n7) := Hxc.out.cell 8
      have lt_x : zn7 < wc.heap.size := Hxc.out.lt
      by_cases hE0 : E = 0
      · subst hE0
        have HG := Lib.hid (HEQ.out.symm : barnErr b bs = 0)
        cases hk : within bin 0 ((bs.length : Int) - 1) with
        | false =>
          have HBE := Lib.hid (binErr_not HG.out hk : binErr b bs bin = 1)
          by_cases hb0 : 0 ≤ bin
          · have hb2 : ¬ bin < (bs.length : Int) := by simp only [within, Bool.and_eq_false_iff, decide_eq_false_iff_not] at hk; omega
            as_aux_lemma =>
              go_wp2_with fail
              refine (Rises_err b A1n6 c1n6 bs _ (HPc.out.up (zg)) h8' bin (by rw [HBE.out]; first | assumption | decide)).mono ?_
              rw [HBE.out]
              rintro e we ⟨rfl, hbe⟩
              have Hbe := Lib.hid (Holds.up (by have h := Hbc.out; exact zp : Holds _ (w.heap.size) 25 #[.int .i64 b.cool, .int .i64 b.gangs, .int .i64 b.r0, .int .i64 b.r1, .int .i64 b.r2, .int .i64 b.r3, .int .i64 b.r4, .int .i64 b.r5, .slice A bs.length c]) hbe)
              have Hde := Lib.hid (Holds.up (by have h := Hdc.out; exact zp : Holds _ (w.heap.size + 1) 27 #[.int .i64 lo, .int .i64 hi]) hbe)
              have Hoe := Lib.hid (Holds.up (by have h := Hoc.out; exact zp : Holds _ (zn6) 25 #[.int .i64 b.cool, .int .i64 b.gangs, .int .i64 b.r0, .int .i64 b.r1, .int .i64 b.r2, .int .i64 b.r3, .int .i64 b.r4, .int .i64 b.r5, .slice A1n6 bs.length c1n6]) hbe)
              have Hxe := Lib.hid (Holds.up (by have h := Hxc.out; exact zp : Holds _ (zn7) 33 #[.int .i64 b.cool, .int .i64 b.gangs, .int .i64 b.r0, .int .i64 b.r1, .int .i64 b.r2, .int .i64 b.r3, .int .i64 b.r4, .int .i64 b.r5, .slice A2n7 bs.length c2n7]) hbe)
              have Hse := Lib.hid (Holds.up (zp : Holds _ (wc.heap.size) 27 #[.int .i64 0, .int .i64 0]) hbe)
              have Hze := Lib.hid (Holds.up (zp : Holds _ (wc.heap.size + 1) 25 #[.int .i64 0, .int .i64 0, .int .i64 0, .int .i64 0, .int .i64 0, .int .i64 0, .int .i64 0, .int .i64 0, .slice none 0 0]) hbe)
              have HSe : Hid (Below wc.heap.size wc we) := Lib.hid (Below.trans (zg) (hbe.mono (by first | exact Nat.le_refl _ | omega | (simp; done) | (simp; omega))))
              have HBe : Hid (Below w.heap.size w we) := Lib.hid (HBc.out.trans (HSe.out.mono hsc))
              have hse := HBe.out.size
              have hste := HSe.out.size
              have HAe := Lib.hid (HAc.out.up HSe.out)
              have HPe := Lib.hid (HPc.out.up HSe.out)
              have HMe := Lib.hid (HMc.out.up HSe.out)
              clear hbe
              clear kb0 kb1 kb2 kb3 kb4 kb5 kb6 kb7 kb8 lt_b kd0 kd1 lt_d ko0 ko1 ko2 ko3 ko4 ko5 ko6 ko7 ko8 lt_o kx0 kx1 kx2 kx3 kx4 kx5 kx6 kx7 kx8 lt_x
              have ko0 : we.cell? ⟨zn6, 0, none⟩ = some (.int .i64 b.cool) := Hoe.out.cell 0
              have ko1 : we.cell? ⟨zn6, 1, none⟩ = some (.int .i64 b.gangs) := Hoe.out.cell 1
              have ko2 : we.cell? ⟨zn6, 2, none⟩ = some (.int .i64 b.r0) := Hoe.out.cell 2
              have ko3 : we.cell? ⟨zn6, 3, none⟩ = some (.int .i64 b.r1) := Hoe.out.cell 3
              have ko4 : we.cell? ⟨zn6, 4, none⟩ = some (.int .i64 b.r2) := Hoe.out.cell 4
              have ko5 : we.cell? ⟨zn6, 5, none⟩ = some (.int .i64 b.r3) := Hoe.out.cell 5
              have ko6 : we.cell? ⟨zn6, 6, none⟩ = some (.int .i64 b.r4) := Hoe.out.cell 6
              have ko7 : we.cell? ⟨zn6, 7, none⟩ = some (.int .i64 b.r5) := Hoe.out.cell 7
              have ko8 : we.cell? ⟨zn6, 8, none⟩ = some (.slice A1n6 bs.length c1n6) := Hoe.out.cell 8
              have lt_o : zn6 < we.heap.size := Hoe.out.lt
              go_wp2_with fail
              refine (Left_err b A1n6 c1n6 bs _ (HPe.out.up (zg)) h8' bin (by rw [HBE.out]; first | assumption | decide)).mono ?_
              rw [HBE.out]
              rintro e wf ⟨rfl, hbf⟩
              have Hbf := Lib.hid (Holds.up (by have h := Hbe.out; exact zp : Holds _ (w.heap.size) 25 #[.int .i64 b.cool, .int .i64 b.gangs, .int .i64 b.r0, .int .i64 b.r1, .int .i64 b.r2, .int .i64 b.r3, .int .i64 b.r4, .int .i64 b.r5, .slice A bs.length c]) hbf)
              have Hdf := Lib.hid (Holds.up (by have h := Hde.out; exact zp : Holds _ (w.heap.size + 1) 27 #[.int .i64 lo, .int .i64 hi]) hbf)
              have Hof := Lib.hid (Holds.up (by have h := Hoe.out; exact zp : Holds _ (zn6) 25 #[.int .i64 b.cool, .int .i64 b.gangs, .int .i64 b.r0, .int .i64 b.r1, .int .i64 b.r2, .int .i64 b.r3, .int .i64 b.r4, .int .i64 b.r5, .slice A1n6 bs.length c1n6]) hbf)
              have Hxf := Lib.hid (Holds.up (by have h := Hxe.out; exact zp : Holds _ (zn7) 33 #[.int .i64 b.cool, .int .i64 b.gangs, .int .i64 b.r0, .int .i64 b.r1, .int .i64 b.r2, .int .i64 b.r3, .int .i64 b.r4, .int .i64 b.r5, .slice A2n7 bs.length c2n7]) hbf)
              have Hsf := Lib.hid (Holds.up (by have h := Hse.out; exact zp : Holds _ (wc.heap.size) 27 #[.int .i64 0, .int .i64 0]) hbf)
              have Hzf := Lib.hid (Holds.up (by have h := Hze.out; exact zp : Holds _ (wc.heap.size + 1) 25 #[.int .i64 0, .int .i64 0, .int .i64 0, .int .i64 0, .int .i64 0, .int .i64 0, .int .i64 0, .int .i64 0, .slice none 0 0]) hbf)
              have Htf := Lib.hid (Holds.up (zp : Holds _ (we.heap.size) 27 #[.int .i64 0, .int .i64 0]) hbf)
              have HSf : Hid (Below we.heap.size we wf) := Lib.hid (Below.trans (zg) (hbf.mono (by first | exact Nat.le_refl _ | omega | (simp; done) | (simp; omega))))
              have HBf : Hid (Below w.heap.size w wf) := Lib.hid (HBe.out.trans (HSf.out.mono hse))
              have hsf := HBf.out.size
              have hstf := HSf.out.size
              have HAf := Lib.hid (HAe.out.up HSf.out)
              have HPf := Lib.hid (HPe.out.up HSf.out)
              have HMf := Lib.hid (HMe.out.up HSf.out)
              clear hbf
              clear ko0 ko1 ko2 ko3 ko4 ko5 ko6 ko7 ko8 lt_o
              have ko0 : wf.cell? ⟨zn6, 0, none⟩ = some (.int .i64 b.cool) := Hof.out.cell 0
              have ko1 : wf.cell? ⟨zn6, 1, none⟩ = some (.int .i64 b.gangs) := Hof.out.cell 1
              have ko2 : wf.cell? ⟨zn6, 2, none⟩ = some (.int .i64 b.r0) := Hof.out.cell 2
              have ko3 : wf.cell? ⟨zn6, 3, none⟩ = some (.int .i64 b.r1) := Hof.out.cell 3
              have ko4 : wf.cell? ⟨zn6, 4, none⟩ = some (.int .i64 b.r2) := Hof.out.cell 4
              have ko5 : wf.cell? ⟨zn6, 5, none⟩ = some (.int .i64 b.r3) := Hof.out.cell 5
              have ko6 : wf.cell? ⟨zn6, 6, none⟩ = some (.int .i64 b.r4) := Hof.out.cell 6
              have ko7 : wf.cell? ⟨zn6, 7, none⟩ = some (.int .i64 b.r5) := Hof.out.cell 7
              have ko8 : wf.cell? ⟨zn6, 8, none⟩ = some (.slice A1n6 bs.length c1n6) := Hof.out.cell 8
              have lt_o : zn6 < wf.heap.size := Hof.out.lt
              go_wp2_with fail
              refine (Lasts_err b A1n6 c1n6 bs _ (HPf.out.up (zg)) h8' bin (by rw [HBE.out]; first | assumption | decide)).mono ?_
              rw [HBE.out]
              rintro e wg ⟨rfl, hbg⟩
              have Hbg := Lib.hid (Holds.up (by have h := Hbf.out; exact zp : Holds _ (w.heap.size) 25 #[.int .i64 b.cool, .int .i64 b.gangs, .int .i64 b.r0, .int .i64 b.r1, .int .i64 b.r2, .int .i64 b.r3, .int .i64 b.r4, .int .i64 b.r5, .slice A bs.length c]) hbg)
              have Hdg := Lib.hid (Holds.up (by have h := Hdf.out; exact zp : Holds _ (w.heap.size + 1) 27 #[.int .i64 lo, .int .i64 hi]) hbg)
              have Hog := Lib.hid (Holds.up (by have h := Hof.out; exact zp : Holds _ (zn6) 25 #[.int .i64 b.cool, .int .i64 b.gangs, .int .i64 b.r0, .int .i64 b.r1, .int .i64 b.r2, .int .i64 b.r3, .int .i64 b.r4, .int .i64 b.r5, .slice A1n6 bs.length c1n6]) hbg)
              have Hxg := Lib.hid (Holds.up (by have h := Hxf.out; exact zp : Holds _ (zn7) 33 #[.int .i64 b.cool, .int .i64 b.gangs, .int .i64 b.r0, .int .i64 b.r1, .int .i64 b.r2, .int .i64 b.r3, .int .i64 b.r4, .int .i64 b.r5, .slice A2n7 bs.length c2n7]) hbg)
              have Hsg := Lib.hid (Holds.up (by have h := Hsf.out; exact zp : Holds _ (wc.heap.size) 27 #[.int .i64 0, .int .i64 0]) hbg)
              have Hzg := Lib.hid (Holds.up (by have h := Hzf.out; exact zp : Holds _ (wc.heap.size + 1) 25 #[.int .i64 0, .int .i64 0, .int .i64 0, .int .i64 0, .int .i64 0, .int .i64 0, .int .i64 0, .int .i64 0, .slice none 0 0]) hbg)
              have Htg := Lib.hid (Holds.up (by have h := Htf.out; exact zp : Holds _ (we.heap.size) 27 #[.int .i64 0, .int .i64 0]) hbg)
              have HSg : Hid (Below wf.heap.size wf wg) := Lib.hid (Below.trans (zg) (hbg.mono (by first | exact Nat.le_refl _ | omega | (simp; done) | (simp; omega))))
              have HBg : Hid (Below w.heap.size w wg) := Lib.hid (HBf.out.trans (HSg.out.mono hsf))
              have hsg := HBg.out.size
              have hstg := HSg.out.size
              have HAg := Lib.hid (HAf.out.up HSg.out)
              have HPg := Lib.hid (HPf.out.up HSg.out)
              have HMg := Lib.hid (HMf.out.up HSg.out)
              clear hbg
              clear ko0 ko1 ko2 ko3 ko4 ko5 ko6 ko7 ko8 lt_o
              have ko0 : wg.cell? ⟨zn6, 0, none⟩ = some (.int .i64 b.cool) := Hog.out.cell 0
              have ko1 : wg.cell? ⟨zn6, 1, none⟩ = some (.int .i64 b.gangs) := Hog.out.cell 1
              have ko2 : wg.cell? ⟨zn6, 2, none⟩ = some (.int .i64 b.r0) := Hog.out.cell 2
              have ko3 : wg.cell? ⟨zn6, 3, none⟩ = some (.int .i64 b.r1) := Hog.out.cell 3
              have ko4 : wg.cell? ⟨zn6, 4, none⟩ = some (.int .i64 b.r2) := Hog.out.cell 4
              have ko5 : wg.cell? ⟨zn6, 5, none⟩ = some (.int .i64 b.r3) := Hog.out.cell 5
              have ko6 : wg.cell? ⟨zn6, 6, none⟩ = some (.int .i64 b.r4) := Hog.out.cell 6
              have ko7 : wg.cell? ⟨zn6, 7, none⟩ = some (.int .i64 b.r5) := Hog.out.cell 7
              have ko8 : wg.cell? ⟨zn6, 8, none⟩ = some (.slice A1n6 bs.length c1n6) := Hog.out.cell 8
              have lt_o : zn6 < wg.heap.size := Hog.out.lt
              have kd0 : wg.cell? ⟨w.heap.size + 1, 0, none⟩ = some (.int .i64 lo) := Hdg.out.cell 0
              have kd1 : wg.cell? ⟨w.heap.size + 1, 1, none⟩ = some (.int .i64 hi) := Hdg.out.cell 1
              have lt_d : w.heap.size + 1 < wg.heap.size := Hdg.out.lt
              go_wp2_with fail
              refine (Sample_err b A1n6 c1n6 bs _ (HPg.out.up (zg)) h8' lo hi bin (by rw [HBE.out]; first | assumption | decide)).mono ?_
              rw [HBE.out]
              rintro e wh ⟨rfl, hbh⟩
              have Hbh := Lib.hid (Holds.up (by have h := Hbg.out; exact zp : Holds _ (w.heap.size) 25 #[.int .i64 b.cool, .int .i64 b.gangs, .int .i64 b.r0, .int .i64 b.r1, .int .i64 b.r2, .int .i64 b.r3, .int .i64 b.r4, .int .i64 b.r5, .slice A bs.length c]) hbh)
              have Hdh := Lib.hid (Holds.up (by have h := Hdg.out; exact zp : Holds _ (w.heap.size + 1) 27 #[.int .i64 lo, .int .i64 hi]) hbh)
              have Hoh := Lib.hid (Holds.up (by have h := Hog.out; exact zp : Holds _ (zn6) 25 #[.int .i64 b.cool, .int .i64 b.gangs, .int .i64 b.r0, .int .i64 b.r1, .int .i64 b.r2, .int .i64 b.r3, .int .i64 b.r4, .int .i64 b.r5, .slice A1n6 bs.length c1n6]) hbh)
              have Hxh := Lib.hid (Holds.up (by have h := Hxg.out; exact zp : Holds _ (zn7) 33 #[.int .i64 b.cool, .int .i64 b.gangs, .int .i64 b.r0, .int .i64 b.r1, .int .i64 b.r2, .int .i64 b.r3, .int .i64 b.r4, .int .i64 b.r5, .slice A2n7 bs.length c2n7]) hbh)
              have Hsh := Lib.hid (Holds.up (by have h := Hsg.out; exact zp : Holds _ (wc.heap.size) 27 #[.int .i64 0, .int .i64 0]) hbh)
              have Hzh := Lib.hid (Holds.up (by have h := Hzg.out; exact zp : Holds _ (wc.heap.size + 1) 25 #[.int .i64 0, .int .i64 0, .int .i64 0, .int .i64 0, .int .i64 0, .int .i64 0, .int .i64 0, .int .i64 0, .slice none 0 0]) hbh)
              have Hth := Lib.hid (Holds.up (by have h := Htg.out; exact zp : Holds _ (we.heap.size) 27 #[.int .i64 0, .int .i64 0]) hbh)
              have HSh : Hid (Below wg.heap.size wg wh) := Lib.hid (Below.trans (zg) (hbh.mono (by first | exact Nat.le_refl _ | omega | (simp; done) | (simp; omega))))
              have HBh : Hid (Below w.heap.size w wh) := Lib.hid (HBg.out.trans (HSh.out.mono hsg))
              have hsh := HBh.out.size
              have hsth := HSh.out.size
              have HAh := Lib.hid (HAg.out.up HSh.out)
              have HPh := Lib.hid (HPg.out.up HSh.out)
              have HMh := Lib.hid (HMg.out.up HSh.out)
              clear hbh
              clear ko0 ko1 ko2 ko3 ko4 ko5 ko6 ko7 ko8 lt_o kd0 kd1 lt_d
              have kt0 : wh.cell? ⟨we.heap.size, 0, none⟩ = some (.int .i64 0) := Hth.out.cell 0
              have kt1 : wh.cell? ⟨we.heap.size, 1, none⟩ = some (.int .i64 0) := Hth.out.cell 1
              have lt_t : we.heap.size < wh.heap.size := Hth.out.lt
              have ks0 : wh.cell? ⟨wc.heap.size, 0, none⟩ = some (.int .i64 0) := Hsh.out.cell 0
              have ks1 : wh.cell? ⟨wc.heap.size, 1, none⟩ = some (.int .i64 0) := Hsh.out.cell 1
              have lt_s : wc.heap.size < wh.heap.size := Hsh.out.lt
              have kz0 : wh.cell? ⟨wc.heap.size + 1, 0, none⟩ = some (.int .i64 0) := Hzh.out.cell 0
              have kz1 : wh.cell? ⟨wc.heap.size + 1, 1, none⟩ = some (.int .i64 0) := Hzh.out.cell 1
              have kz2 : wh.cell? ⟨wc.heap.size + 1, 2, none⟩ = some (.int .i64 0) := Hzh.out.cell 2
              have kz3 : wh.cell? ⟨wc.heap.size + 1, 3, none⟩ = some (.int .i64 0) := Hzh.out.cell 3
              have kz4 : wh.cell? ⟨wc.heap.size + 1, 4, none⟩ = some (.int .i64 0) := Hzh.out.cell 4
              have kz5 : wh.cell? ⟨wc.heap.size + 1, 5, none⟩ = some (.int .i64 0) := Hzh.out.cell 5
              have kz6 : wh.cell? ⟨wc.heap.size + 1, 6, none⟩ = some (.int .i64 0) := Hzh.out.cell 6
              have kz7 : wh.cell? ⟨wc.heap.size + 1, 7, none⟩ = some (.int .i64 0) := Hzh.out.cell 7
              have kz8 : wh.cell? ⟨wc.heap.size + 1, 8, none⟩ = some (.slice none 0 0) := Hzh.out.cell 8
              have lt_z : wc.heap.size + 1 < wh.heap.size := Hzh.out.lt
              have hneq := neq_span 0 0
              go_wp2_with fail
              refine (same_same ⟨0, 0, 0, 0, 0, 0, 0, 0⟩ none none 0 0 [] _ (RowAt.nil _ _ _ _) (RowAt.nil _ _ _ _) (by decide)).mono ?_
              rintro e wi ⟨rfl, hbi⟩
              have Hbi := Lib.hid (Holds.up (by have h := Hbh.out; exact zp : Holds _ (w.heap.size) 25 #[.int .i64 b.cool, .int .i64 b.gangs, .int .i64 b.r0, .int .i64 b.r1, .int .i64 b.r2, .int .i64 b.r3, .int .i64 b.r4, .int .i64 b.r5, .slice A bs.length c]) hbi)
              have Hdi := Lib.hid (Holds.up (by have h := Hdh.out; exact zp : Holds _ (w.heap.size + 1) 27 #[.int .i64 lo, .int .i64 hi]) hbi)
              have Hoi := Lib.hid (Holds.up (by have h := Hoh.out; exact zp : Holds _ (zn6) 25 #[.int .i64 b.cool, .int .i64 b.gangs, .int .i64 b.r0, .int .i64 b.r1, .int .i64 b.r2, .int .i64 b.r3, .int .i64 b.r4, .int .i64 b.r5, .slice A1n6 bs.length c1n6]) hbi)
              have Hxi := Lib.hid (Holds.up (by have h := Hxh.out; exact zp : Holds _ (zn7) 33 #[.int .i64 b.cool, .int .i64 b.gangs, .int .i64 b.r0, .int .i64 b.r1, .int .i64 b.r2, .int .i64 b.r3, .int .i64 b.r4, .int .i64 b.r5, .slice A2n7 bs.length c2n7]) hbi)
              have Hsi := Lib.hid (Holds.up (by have h := Hsh.out; exact zp : Holds _ (wc.heap.size) 27 #[.int .i64 0, .int .i64 0]) hbi)
              have Hzi := Lib.hid (Holds.up (by have h := Hzh.out; exact zp : Holds _ (wc.heap.size + 1) 25 #[.int .i64 0, .int .i64 0, .int .i64 0, .int .i64 0, .int .i64 0, .int .i64 0, .int .i64 0, .int .i64 0, .slice none 0 0]) hbi)
              have Hti := Lib.hid (Holds.up (by have h := Hth.out; exact zp : Holds _ (we.heap.size) 27 #[.int .i64 0, .int .i64 0]) hbi)
              have Hci := Lib.hid (Holds.up (zp : Holds _ (wh.heap.size) 25 #[.int .i64 0, .int .i64 0, .int .i64 0, .int .i64 0, .int .i64 0, .int .i64 0, .int .i64 0, .int .i64 0, .slice none 0 0]) hbi)
              have HSi : Hid (Below wh.heap.size wh wi) := Lib.hid (Below.trans (zg) (hbi.mono (by first | exact Nat.le_refl _ | omega | (simp; done) | (simp; omega))))
              have HBi : Hid (Below w.heap.size w wi) := Lib.hid (HBh.out.trans (HSi.out.mono hsh))
              have hsi := HBi.out.size
              have hsti := HSi.out.size
              have HAi := Lib.hid (HAh.out.up HSi.out)
              have HPi := Lib.hid (HPh.out.up HSi.out)
              have HMi := Lib.hid (HMh.out.up HSi.out)
              clear hbi
              clear kt0 kt1 lt_t ks0 ks1 lt_s kz0 kz1 kz2 kz3 kz4 kz5 kz6 kz7 kz8 lt_z
              have kc0 : wi.cell? ⟨wh.heap.size, 0, none⟩ = some (.int .i64 0) := Hci.out.cell 0
              have kc1 : wi.cell? ⟨wh.heap.size, 1, none⟩ = some (.int .i64 0) := Hci.out.cell 1
              have kc2 : wi.cell? ⟨wh.heap.size, 2, none⟩ = some (.int .i64 0) := Hci.out.cell 2
              have kc3 : wi.cell? ⟨wh.heap.size, 3, none⟩ = some (.int .i64 0) := Hci.out.cell 3
              have kc4 : wi.cell? ⟨wh.heap.size, 4, none⟩ = some (.int .i64 0) := Hci.out.cell 4
              have kc5 : wi.cell? ⟨wh.heap.size, 5, none⟩ = some (.int .i64 0) := Hci.out.cell 5
              have kc6 : wi.cell? ⟨wh.heap.size, 6, none⟩ = some (.int .i64 0) := Hci.out.cell 6
              have kc7 : wi.cell? ⟨wh.heap.size, 7, none⟩ = some (.int .i64 0) := Hci.out.cell 7
              have kc8 : wi.cell? ⟨wh.heap.size, 8, none⟩ = some (.slice none 0 0) := Hci.out.cell 8
              have lt_c : wh.heap.size < wi.heap.size := Hci.out.lt
              have hclr := run_clear_nil wi 0
              have kb0 : wi.cell? ⟨w.heap.size, 0, none⟩ = some (.int .i64 b.cool) := Hbi.out.cell 0
              have kb1 : wi.cell? ⟨w.heap.size, 1, none⟩ = some (.int .i64 b.gangs) := Hbi.out.cell 1
              have kb2 : wi.cell? ⟨w.heap.size, 2, none⟩ = some (.int .i64 b.r0) := Hbi.out.cell 2
              have kb3 : wi.cell? ⟨w.heap.size, 3, none⟩ = some (.int .i64 b.r1) := Hbi.out.cell 3
              have kb4 : wi.cell? ⟨w.heap.size, 4, none⟩ = some (.int .i64 b.r2) := Hbi.out.cell 4
              have kb5 : wi.cell? ⟨w.heap.size, 5, none⟩ = some (.int .i64 b.r3) := Hbi.out.cell 5
              have kb6 : wi.cell? ⟨w.heap.size, 6, none⟩ = some (.int .i64 b.r4) := Hbi.out.cell 6
              have kb7 : wi.cell? ⟨w.heap.size, 7, none⟩ = some (.int .i64 b.r5) := Hbi.out.cell 7
              have kb8 : wi.cell? ⟨w.heap.size, 8, none⟩ = some (.slice A bs.length c) := Hbi.out.cell 8
              have lt_b : w.heap.size < wi.heap.size := Hbi.out.lt
              have ko0 : wi.cell? ⟨zn6, 0, none⟩ = some (.int .i64 b.cool) := Hoi.out.cell 0
              have ko1 : wi.cell? ⟨zn6, 1, none⟩ = some (.int .i64 b.gangs) := Hoi.out.cell 1
              have ko2 : wi.cell? ⟨zn6, 2, none⟩ = some (.int .i64 b.r0) := Hoi.out.cell 2
              have ko3 : wi.cell? ⟨zn6, 3, none⟩ = some (.int .i64 b.r1) := Hoi.out.cell 3
              have ko4 : wi.cell? ⟨zn6, 4, none⟩ = some (.int .i64 b.r2) := Hoi.out.cell 4
              have ko5 : wi.cell? ⟨zn6, 5, none⟩ = some (.int .i64 b.r3) := Hoi.out.cell 5
              have ko6 : wi.cell? ⟨zn6, 6, none⟩ = some (.int .i64 b.r4) := Hoi.out.cell 6
              have ko7 : wi.cell? ⟨zn6, 7, none⟩ = some (.int .i64 b.r5) := Hoi.out.cell 7
              have ko8 : wi.cell? ⟨zn6, 8, none⟩ = some (.slice A1n6 bs.length c1n6) := Hoi.out.cell 8
              have lt_o : zn6 < wi.heap.size := Hoi.out.lt
              go_wp2_with (at_builtin; go_loud (refine wpList_clear_run _ rfl _ _ rfl _ rfl hclr ?_))
              refine (same_same b A1n6 A c1n6 c bs _ (HPi.out.up (zg)) (HAi.out.up (zg)) h8').mono ?_
              rintro e wj ⟨rfl, hbj⟩
              have Hbj := Lib.hid (Holds.up (by have h := Hbi.out; exact zp : Holds _ (w.heap.size) 25 #[.int .i64 b.cool, .int .i64 b.gangs, .int .i64 b.r0, .int .i64 b.r1, .int .i64 b.r2, .int .i64 b.r3, .int .i64 b.r4, .int .i64 b.r5, .slice A bs.length c]) hbj)
              have Hoj := Lib.hid (Holds.up (by have h := Hoi.out; exact zp : Holds _ (zn6) 25 #[.int .i64 b.cool, .int .i64 b.gangs, .int .i64 b.r0, .int .i64 b.r1, .int .i64 b.r2, .int .i64 b.r3, .int .i64 b.r4, .int .i64 b.r5, .slice A1n6 bs.length c1n6]) hbj)
              have HSj : Hid (Below wi.heap.size wi wj) := Lib.hid (Below.trans (zg) (hbj.mono (by first | exact Nat.le_refl _ | omega | (simp; done) | (simp; omega))))
              have HBj : Hid (Below w.heap.size w wj) := Lib.hid (HBi.out.trans (HSj.out.mono hsi))
              have hsj := HBj.out.size
              have hstj := HSj.out.size
              have HAj := Lib.hid (HAi.out.up HSj.out)
              have HPj := Lib.hid (HPi.out.up HSj.out)
              clear hbj
              clear kb0 kb1 kb2 kb3 kb4 kb5 kb6 kb7 kb8 lt_b ko0 ko1 ko2 ko3 ko4 ko5 ko6 ko7 ko8 lt_o
              go_wp2_with fail
              refine (awake_any _).mono ?_
              rintro e w40 ⟨rfl, hb40⟩
              go_wp2_with fail
              go_ret
              exact ⟨rfl, HBj.out.trans (hb40.mono hsj)⟩
          · as_aux_lemma =>
              go_wp2_with fail
              refine (Rises_err b A1n6 c1n6 bs _ (HPc.out.up (zg)) h8' bin (by rw [HBE.out]; first | assumption | decide)).mono ?_
              rw [HBE.out]
              rintro e we ⟨rfl, hbe⟩
              have Hbe := Lib.hid (Holds.up (by have h := Hbc.out; exact zp : Holds _ (w.heap.size) 25 #[.int .i64 b.cool, .int .i64 b.gangs, .int .i64 b.r0, .int .i64 b.r1, .int .i64 b.r2, .int .i64 b.r3, .int .i64 b.r4, .int .i64 b.r5, .slice A bs.length c]) hbe)
              have Hde := Lib.hid (Holds.up (by have h := Hdc.out; exact zp : Holds _ (w.heap.size + 1) 27 #[.int .i64 lo, .int .i64 hi]) hbe)
              have Hoe := Lib.hid (Holds.up (by have h := Hoc.out; exact zp : Holds _ (zn6) 25 #[.int .i64 b.cool, .int .i64 b.gangs, .int .i64 b.r0, .int .i64 b.r1, .int .i64 b.r2, .int .i64 b.r3, .int .i64 b.r4, .int .i64 b.r5, .slice A1n6 bs.length c1n6]) hbe)
              have Hxe := Lib.hid (Holds.up (by have h := Hxc.out; exact zp : Holds _ (zn7) 33 #[.int .i64 b.cool, .int .i64 b.gangs, .int .i64 b.r0, .int .i64 b.r1, .int .i64 b.r2, .int .i64 b.r3, .int .i64 b.r4, .int .i64 b.r5, .slice A2n7 bs.length c2n7]) hbe)
              have Hse := Lib.hid (Holds.up (zp : Holds _ (wc.heap.size) 27 #[.int .i64 0, .int .i64 0]) hbe)
              have Hze := Lib.hid (Holds.up (zp : Holds _ (wc.heap.size + 1) 25 #[.int .i64 0, .int .i64 0, .int .i64 0, .int .i64 0, .int .i64 0, .int .i64 0, .int .i64 0, .int .i64 0, .slice none 0 0]) hbe)
              have HSe : Hid (Below wc.heap.size wc we) := Lib.hid (Below.trans (zg) (hbe.mono (by first | exact Nat.le_refl _ | omega | (simp; done) | (simp; omega))))
              have HBe : Hid (Below w.heap.size w we) := Lib.hid (HBc.out.trans (HSe.out.mono hsc))
              have hse := HBe.out.size
              have hste := HSe.out.size
              have HAe := Lib.hid (HAc.out.up HSe.out)
              have HPe := Lib.hid (HPc.out.up HSe.out)
              have HMe := Lib.hid (HMc.out.up HSe.out)
              clear hbe
              clear kb0 kb1 kb2 kb3 kb4 kb5 kb6 kb7 kb8 lt_b kd0 kd1 lt_d ko0 ko1 ko2 ko3 ko4 ko5 ko6 ko7 ko8 lt_o kx0 kx1 kx2 kx3 kx4 kx5 kx6 kx7 kx8 lt_x
              have ko0 : we.cell? ⟨zn6, 0, none⟩ = some (.int .i64 b.cool) := Hoe.out.cell 0
              have ko1 : we.cell? ⟨zn6, 1, none⟩ = some (.int .i64 b.gangs) := Hoe.out.cell 1
              have ko2 : we.cell? ⟨zn6, 2, none⟩ = some (.int .i64 b.r0) := Hoe.out.cell 2
              have ko3 : we.cell? ⟨zn6, 3, none⟩ = some (.int .i64 b.r1) := Hoe.out.cell 3
              have ko4 : we.cell? ⟨zn6, 4, none⟩ = some (.int .i64 b.r2) := Hoe.out.cell 4
              have ko5 : we.cell? ⟨zn6, 5, none⟩ = some (.int .i64 b.r3) := Hoe.out.cell 5
              have ko6 : we.cell? ⟨zn6, 6, none⟩ = some (.int .i64 b.r4) := Hoe.out.cell 6
              have ko7 : we.cell? ⟨zn6, 7, none⟩ = some (.int .i64 b.r5) := Hoe.out.cell 7
              have ko8 : we.cell? ⟨zn6, 8, none⟩ = some (.slice A1n6 bs.length c1n6) := Hoe.out.cell 8
              have lt_o : zn6 < we.heap.size := Hoe.out.lt
              go_wp2_with fail
              refine (Left_err b A1n6 c1n6 bs _ (HPe.out.up (zg)) h8' bin (by rw [HBE.out]; first | assumption | decide)).mono ?_
              rw [HBE.out]
              rintro e wf ⟨rfl, hbf⟩
              have Hbf := Lib.hid (Holds.up (by have h := Hbe.out; exact zp : Holds _ (w.heap.size) 25 #[.int .i64 b.cool, .int .i64 b.gangs, .int .i64 b.r0, .int .i64 b.r1, .int .i64 b.r2, .int .i64 b.r3, .int .i64 b.r4, .int .i64 b.r5, .slice A bs.length c]) hbf)
              have Hdf := Lib.hid (Holds.up (by have h := Hde.out; exact zp : Holds _ (w.heap.size + 1) 27 #[.int .i64 lo, .int .i64 hi]) hbf)
              have Hof := Lib.hid (Holds.up (by have h := Hoe.out; exact zp : Holds _ (zn6) 25 #[.int .i64 b.cool, .int .i64 b.gangs, .int .i64 b.r0, .int .i64 b.r1, .int .i64 b.r2, .int .i64 b.r3, .int .i64 b.r4, .int .i64 b.r5, .slice A1n6 bs.length c1n6]) hbf)
              have Hxf := Lib.hid (Holds.up (by have h := Hxe.out; exact zp : Holds _ (zn7) 33 #[.int .i64 b.cool, .int .i64 b.gangs, .int .i64 b.r0, .int .i64 b.r1, .int .i64 b.r2, .int .i64 b.r3, .int .i64 b.r4, .int .i64 b.r5, .slice A2n7 bs.length c2n7]) hbf)
              have Hsf := Lib.hid (Holds.up (by have h := Hse.out; exact zp : Holds _ (wc.heap.size) 27 #[.int .i64 0, .int .i64 0]) hbf)
              have Hzf := Lib.hid (Holds.up (by have h := Hze.out; exact zp : Holds _ (wc.heap.size + 1) 25 #[.int .i64 0, .int .i64 0, .int .i64 0, .int .i64 0, .int .i64 0, .int .i64 0, .int .i64 0, .int .i64 0, .slice none 0 0]) hbf)
              have Htf := Lib.hid (Holds.up (zp : Holds _ (we.heap.size) 27 #[.int .i64 0, .int .i64 0]) hbf)
              have HSf : Hid (Below we.heap.size we wf) := Lib.hid (Below.trans (zg) (hbf.mono (by first | exact Nat.le_refl _ | omega | (simp; done) | (simp; omega))))
              have HBf : Hid (Below w.heap.size w wf) := Lib.hid (HBe.out.trans (HSf.out.mono hse))
              have hsf := HBf.out.size
              have hstf := HSf.out.size
              have HAf := Lib.hid (HAe.out.up HSf.out)
              have HPf := Lib.hid (HPe.out.up HSf.out)
              have HMf := Lib.hid (HMe.out.up HSf.out)
              clear hbf
              clear ko0 ko1 ko2 ko3 ko4 ko5 ko6 ko7 ko8 lt_o
              have ko0 : wf.cell? ⟨zn6, 0, none⟩ = some (.int .i64 b.cool) := Hof.out.cell 0
              have ko1 : wf.cell? ⟨zn6, 1, none⟩ = some (.int .i64 b.gangs) := Hof.out.cell 1
              have ko2 : wf.cell? ⟨zn6, 2, none⟩ = some (.int .i64 b.r0) := Hof.out.cell 2
              have ko3 : wf.cell? ⟨zn6, 3, none⟩ = some (.int .i64 b.r1) := Hof.out.cell 3
              have ko4 : wf.cell? ⟨zn6, 4, none⟩ = some (.int .i64 b.r2) := Hof.out.cell 4
              have ko5 : wf.cell? ⟨zn6, 5, none⟩ = some (.int .i64 b.r3) := Hof.out.cell 5
              have ko6 : wf.cell? ⟨zn6, 6, none⟩ = some (.int .i64 b.r4) := Hof.out.cell 6
              have ko7 : wf.cell? ⟨zn6, 7, none⟩ = some (.int .i64 b.r5) := Hof.out.cell 7
              have ko8 : wf.cell? ⟨zn6, 8, none⟩ = some (.slice A1n6 bs.length c1n6) := Hof.out.cell 8
              have lt_o : zn6 < wf.heap.size := Hof.out.lt
              go_wp2_with fail
              refine (Lasts_err b A1n6 c1n6 bs _ (HPf.out.up (zg)) h8' bin (by rw [HBE.out]; first | assumption | decide)).mono ?_
              rw [HBE.out]
              rintro e wg ⟨rfl, hbg⟩
              have Hbg := Lib.hid (Holds.up (by have h := Hbf.out; exact zp : Holds _ (w.heap.size) 25 #[.int .i64 b.cool, .int .i64 b.gangs, .int .i64 b.r0, .int .i64 b.r1, .int .i64 b.r2, .int .i64 b.r3, .int .i64 b.r4, .int .i64 b.r5, .slice A bs.length c]) hbg)
              have Hdg := Lib.hid (Holds.up (by have h := Hdf.out; exact zp : Holds _ (w.heap.size + 1) 27 #[.int .i64 lo, .int .i64 hi]) hbg)
              have Hog := Lib.hid (Holds.up (by have h := Hof.out; exact zp : Holds _ (zn6) 25 #[.int .i64 b.cool, .int .i64 b.gangs, .int .i64 b.r0, .int .i64 b.r1, .int .i64 b.r2, .int .i64 b.r3, .int .i64 b.r4, .int .i64 b.r5, .slice A1n6 bs.length c1n6]) hbg)
              have Hxg := Lib.hid (Holds.up (by have h := Hxf.out; exact zp : Holds _ (zn7) 33 #[.int .i64 b.cool, .int .i64 b.gangs, .int .i64 b.r0, .int .i64 b.r1, .int .i64 b.r2, .int .i64 b.r3, .int .i64 b.r4, .int .i64 b.r5, .slice A2n7 bs.length c2n7]) hbg)
              have Hsg := Lib.hid (Holds.up (by have h := Hsf.out; exact zp : Holds _ (wc.heap.size) 27 #[.int .i64 0, .int .i64 0]) hbg)
              have Hzg := Lib.hid (Holds.up (by have h := Hzf.out; exact zp : Holds _ (wc.heap.size + 1) 25 #[.int .i64 0, .int .i64 0, .int .i64 0, .int .i64 0, .int .i64 0, .int .i64 0, .int .i64 0, .int .i64 0, .slice none 0 0]) hbg)
              have Htg := Lib.hid (Holds.up (by have h := Htf.out; exact zp : Holds _ (we.heap.size) 27 #[.int .i64 0, .int .i64 0]) hbg)
              have HSg : Hid (Below wf.heap.size wf wg) := Lib.hid (Below.trans (zg) (hbg.mono (by first | exact Nat.le_refl _ | omega | (simp; done) | (simp; omega))))
              have HBg : Hid (Below w.heap.size w wg) := Lib.hid (HBf.out.trans (HSg.out.mono hsf))
              have hsg := HBg.out.size
              have hstg := HSg.out.size
              have HAg := Lib.hid (HAf.out.up HSg.out)
              have HPg := Lib.hid (HPf.out.up HSg.out)
              have HMg := Lib.hid (HMf.out.up HSg.out)
              clear hbg
              clear ko0 ko1 ko2 ko3 ko4 ko5 ko6 ko7 ko8 lt_o
              have ko0 : wg.cell? ⟨zn6, 0, none⟩ = some (.int .i64 b.cool) := Hog.out.cell 0
              have ko1 : wg.cell? ⟨zn6, 1, none⟩ = some (.int .i64 b.gangs) := Hog.out.cell 1
              have ko2 : wg.cell? ⟨zn6, 2, none⟩ = some (.int .i64 b.r0) := Hog.out.cell 2
              have ko3 : wg.cell? ⟨zn6, 3, none⟩ = some (.int .i64 b.r1) := Hog.out.cell 3
              have ko4 : wg.cell? ⟨zn6, 4, none⟩ = some (.int .i64 b.r2) := Hog.out.cell 4
              have ko5 : wg.cell? ⟨zn6, 5, none⟩ = some (.int .i64 b.r3) := Hog.out.cell 5
              have ko6 : wg.cell? ⟨zn6, 6, none⟩ = some (.int .i64 b.r4) := Hog.out.cell 6
              have ko7 : wg.cell? ⟨zn6, 7, none⟩ = some (.int .i64 b.r5) := Hog.out.cell 7
              have ko8 : wg.cell? ⟨zn6, 8, none⟩ = some (.slice A1n6 bs.length c1n6) := Hog.out.cell 8
              have lt_o : zn6 < wg.heap.size := Hog.out.lt
              have kd0 : wg.cell? ⟨w.heap.size + 1, 0, none⟩ = some (.int .i64 lo) := Hdg.out.cell 0
              have kd1 : wg.cell? ⟨w.heap.size + 1, 1, none⟩ = some (.int .i64 hi) := Hdg.out.cell 1
              have lt_d : w.heap.size + 1 < wg.heap.size := Hdg.out.lt
              go_wp2_with fail
              refine (Sample_err b A1n6 c1n6 bs _ (HPg.out.up (zg)) h8' lo hi bin (by rw [HBE.out]; first | assumption | decide)).mono ?_
              rw [HBE.out]
              rintro e wh ⟨rfl, hbh⟩
              have Hbh := Lib.hid (Holds.up (by have h := Hbg.out; exact zp : Holds _ (w.heap.size) 25 #[.int .i64 b.cool, .int .i64 b.gangs, .int .i64 b.r0, .int .i64 b.r1, .int .i64 b.r2, .int .i64 b.r3, .int .i64 b.r4, .int .i64 b.r5, .slice A bs.length c]) hbh)
              have Hdh := Lib.hid (Holds.up (by have h := Hdg.out; exact zp : Holds _ (w.heap.size + 1) 27 #[.int .i64 lo, .int .i64 hi]) hbh)
              have Hoh := Lib.hid (Holds.up (by have h := Hog.out; exact zp : Holds _ (zn6) 25 #[.int .i64 b.cool, .int .i64 b.gangs, .int .i64 b.r0, .int .i64 b.r1, .int .i64 b.r2, .int .i64 b.r3, .int .i64 b.r4, .int .i64 b.r5, .slice A1n6 bs.length c1n6]) hbh)
              have Hxh := Lib.hid (Holds.up (by have h := Hxg.out; exact zp : Holds _ (zn7) 33 #[.int .i64 b.cool, .int .i64 b.gangs, .int .i64 b.r0, .int .i64 b.r1, .int .i64 b.r2, .int .i64 b.r3, .int .i64 b.r4, .int .i64 b.r5, .slice A2n7 bs.length c2n7]) hbh)
              have Hsh := Lib.hid (Holds.up (by have h := Hsg.out; exact zp : Holds _ (wc.heap.size) 27 #[.int .i64 0, .int .i64 0]) hbh)
              have Hzh := Lib.hid (Holds.up (by have h := Hzg.out; exact zp : Holds _ (wc.heap.size + 1) 25 #[.int .i64 0, .int .i64 0, .int .i64 0, .int .i64 0, .int .i64 0, .int .i64 0, .int .i64 0, .int .i64 0, .slice none 0 0]) hbh)
              have Hth := Lib.hid (Holds.up (by have h := Htg.out; exact zp : Holds _ (we.heap.size) 27 #[.int .i64 0, .int .i64 0]) hbh)
              have HSh : Hid (Below wg.heap.size wg wh) := Lib.hid (Below.trans (zg) (hbh.mono (by first | exact Nat.le_refl _ | omega | (simp; done) | (simp; omega))))
              have HBh : Hid (Below w.heap.size w wh) := Lib.hid (HBg.out.trans (HSh.out.mono hsg))
              have hsh := HBh.out.size
              have hsth := HSh.out.size
              have HAh := Lib.hid (HAg.out.up HSh.out)
              have HPh := Lib.hid (HPg.out.up HSh.out)
              have HMh := Lib.hid (HMg.out.up HSh.out)
              clear hbh
              clear ko0 ko1 ko2 ko3 ko4 ko5 ko6 ko7 ko8 lt_o kd0 kd1 lt_d
              have kt0 : wh.cell? ⟨we.heap.size, 0, none⟩ = some (.int .i64 0) := Hth.out.cell 0
              have kt1 : wh.cell? ⟨we.heap.size, 1, none⟩ = some (.int .i64 0) := Hth.out.cell 1
              have lt_t : we.heap.size < wh.heap.size := Hth.out.lt
              have ks0 : wh.cell? ⟨wc.heap.size, 0, none⟩ = some (.int .i64 0) := Hsh.out.cell 0
              have ks1 : wh.cell? ⟨wc.heap.size, 1, none⟩ = some (.int .i64 0) := Hsh.out.cell 1
              have lt_s : wc.heap.size < wh.heap.size := Hsh.out.lt
              have kz0 : wh.cell? ⟨wc.heap.size + 1, 0, none⟩ = some (.int .i64 0) := Hzh.out.cell 0
              have kz1 : wh.cell? ⟨wc.heap.size + 1, 1, none⟩ = some (.int .i64 0) := Hzh.out.cell 1
              have kz2 : wh.cell? ⟨wc.heap.size + 1, 2, none⟩ = some (.int .i64 0) := Hzh.out.cell 2
              have kz3 : wh.cell? ⟨wc.heap.size + 1, 3, none⟩ = some (.int .i64 0) := Hzh.out.cell 3
              have kz4 : wh.cell? ⟨wc.heap.size + 1, 4, none⟩ = some (.int .i64 0) := Hzh.out.cell 4
              have kz5 : wh.cell? ⟨wc.heap.size + 1, 5, none⟩ = some (.int .i64 0) := Hzh.out.cell 5
              have kz6 : wh.cell? ⟨wc.heap.size + 1, 6, none⟩ = some (.int .i64 0) := Hzh.out.cell 6
              have kz7 : wh.cell? ⟨wc.heap.size + 1, 7, none⟩ = some (.int .i64 0) := Hzh.out.cell 7
              have kz8 : wh.cell? ⟨wc.heap.size + 1, 8, none⟩ = some (.slice none 0 0) := Hzh.out.cell 8
              have lt_z : wc.heap.size + 1 < wh.heap.size := Hzh.out.lt
              have hneq := neq_span 0 0
              go_wp2_with fail
              refine (same_same ⟨0, 0, 0, 0, 0, 0, 0, 0⟩ none none 0 0 [] _ (RowAt.nil _ _ _ _) (RowAt.nil _ _ _ _) (by decide)).mono ?_
              rintro e wi ⟨rfl, hbi⟩
              have Hbi := Lib.hid (Holds.up (by have h := Hbh.out; exact zp : Holds _ (w.heap.size) 25 #[.int .i64 b.cool, .int .i64 b.gangs, .int .i64 b.r0, .int .i64 b.r1, .int .i64 b.r2, .int .i64 b.r3, .int .i64 b.r4, .int .i64 b.r5, .slice A bs.length c]) hbi)
              have Hdi := Lib.hid (Holds.up (by have h := Hdh.out; exact zp : Holds _ (w.heap.size + 1) 27 #[.int .i64 lo, .int .i64 hi]) hbi)
              have Hoi := Lib.hid (Holds.up (by have h := Hoh.out; exact zp : Holds _ (zn6) 25 #[.int .i64 b.cool, .int .i64 b.gangs, .int .i64 b.r0, .int .i64 b.r1, .int .i64 b.r2, .int .i64 b.r3, .int .i64 b.r4, .int .i64 b.r5, .slice A1n6 bs.length c1n6]) hbi)
              have Hxi := Lib.hid (Holds.up (by have h := Hxh.out; exact zp : Holds _ (zn7) 33 #[.int .i64 b.cool, .int .i64 b.gangs, .int .i64 b.r0, .int .i64 b.r1, .int .i64 b.r2, .int .i64 b.r3, .int .i64 b.r4, .int .i64 b.r5, .slice A2n7 bs.length c2n7]) hbi)
              have Hsi := Lib.hid (Holds.up (by have h := Hsh.out; exact zp : Holds _ (wc.heap.size) 27 #[.int .i64 0, .int .i64 0]) hbi)
              have Hzi := Lib.hid (Holds.up (by have h := Hzh.out; exact zp : Holds _ (wc.heap.size + 1) 25 #[.int .i64 0, .int .i64 0, .int .i64 0, .int .i64 0, .int .i64 0, .int .i64 0, .int .i64 0, .int .i64 0, .slice none 0 0]) hbi)
              have Hti := Lib.hid (Holds.up (by have h := Hth.out; exact zp : Holds _ (we.heap.size) 27 #[.int .i64 0, .int .i64 0]) hbi)
              have Hci := Lib.hid (Holds.up (zp : Holds _ (wh.heap.size) 25 #[.int .i64 0, .int .i64 0, .int .i64 0, .int .i64 0, .int .i64 0, .int .i64 0, .int .i64 0, .int .i64 0, .slice none 0 0]) hbi)
              have HSi : Hid (Below wh.heap.size wh wi) := Lib.hid (Below.trans (zg) (hbi.mono (by first | exact Nat.le_refl _ | omega | (simp; done) | (simp; omega))))
              have HBi : Hid (Below w.heap.size w wi) := Lib.hid (HBh.out.trans (HSi.out.mono hsh))
              have hsi := HBi.out.size
              have hsti := HSi.out.size
              have HAi := Lib.hid (HAh.out.up HSi.out)
              have HPi := Lib.hid (HPh.out.up HSi.out)
              have HMi := Lib.hid (HMh.out.up HSi.out)
              clear hbi
              clear kt0 kt1 lt_t ks0 ks1 lt_s kz0 kz1 kz2 kz3 kz4 kz5 kz6 kz7 kz8 lt_z
              have kc0 : wi.cell? ⟨wh.heap.size, 0, none⟩ = some (.int .i64 0) := Hci.out.cell 0
              have kc1 : wi.cell? ⟨wh.heap.size, 1, none⟩ = some (.int .i64 0) := Hci.out.cell 1
              have kc2 : wi.cell? ⟨wh.heap.size, 2, none⟩ = some (.int .i64 0) := Hci.out.cell 2
              have kc3 : wi.cell? ⟨wh.heap.size, 3, none⟩ = some (.int .i64 0) := Hci.out.cell 3
              have kc4 : wi.cell? ⟨wh.heap.size, 4, none⟩ = some (.int .i64 0) := Hci.out.cell 4
              have kc5 : wi.cell? ⟨wh.heap.size, 5, none⟩ = some (.int .i64 0) := Hci.out.cell 5
              have kc6 : wi.cell? ⟨wh.heap.size, 6, none⟩ = some (.int .i64 0) := Hci.out.cell 6
              have kc7 : wi.cell? ⟨wh.heap.size, 7, none⟩ = some (.int .i64 0) := Hci.out.cell 7
              have kc8 : wi.cell? ⟨wh.heap.size, 8, none⟩ = some (.slice none 0 0) := Hci.out.cell 8
              have lt_c : wh.heap.size < wi.heap.size := Hci.out.lt
              have hclr := run_clear_nil wi 0
              have kb0 : wi.cell? ⟨w.heap.size, 0, none⟩ = some (.int .i64 b.cool) := Hbi.out.cell 0
              have kb1 : wi.cell? ⟨w.heap.size, 1, none⟩ = some (.int .i64 b.gangs) := Hbi.out.cell 1
              have kb2 : wi.cell? ⟨w.heap.size, 2, none⟩ = some (.int .i64 b.r0) := Hbi.out.cell 2
              have kb3 : wi.cell? ⟨w.heap.size, 3, none⟩ = some (.int .i64 b.r1) := Hbi.out.cell 3
              have kb4 : wi.cell? ⟨w.heap.size, 4, none⟩ = some (.int .i64 b.r2) := Hbi.out.cell 4
              have kb5 : wi.cell? ⟨w.heap.size, 5, none⟩ = some (.int .i64 b.r3) := Hbi.out.cell 5
              have kb6 : wi.cell? ⟨w.heap.size, 6, none⟩ = some (.int .i64 b.r4) := Hbi.out.cell 6
              have kb7 : wi.cell? ⟨w.heap.size, 7, none⟩ = some (.int .i64 b.r5) := Hbi.out.cell 7
              have kb8 : wi.cell? ⟨w.heap.size, 8, none⟩ = some (.slice A bs.length c) := Hbi.out.cell 8
              have lt_b : w.heap.size < wi.heap.size := Hbi.out.lt
              have ko0 : wi.cell? ⟨zn6, 0, none⟩ = some (.int .i64 b.cool) := Hoi.out.cell 0
              have ko1 : wi.cell? ⟨zn6, 1, none⟩ = some (.int .i64 b.gangs) := Hoi.out.cell 1
              have ko2 : wi.cell? ⟨zn6, 2, none⟩ = some (.int .i64 b.r0) := Hoi.out.cell 2
              have ko3 : wi.cell? ⟨zn6, 3, none⟩ = some (.int .i64 b.r1) := Hoi.out.cell 3
              have ko4 : wi.cell? ⟨zn6, 4, none⟩ = some (.int .i64 b.r2) := Hoi.out.cell 4
              have ko5 : wi.cell? ⟨zn6, 5, none⟩ = some (.int .i64 b.r3) := Hoi.out.cell 5
              have ko6 : wi.cell? ⟨zn6, 6, none⟩ = some (.int .i64 b.r4) := Hoi.out.cell 6
              have ko7 : wi.cell? ⟨zn6, 7, none⟩ = some (.int .i64 b.r5) := Hoi.out.cell 7
              have ko8 : wi.cell? ⟨zn6, 8, none⟩ = some (.slice A1n6 bs.length c1n6) := Hoi.out.cell 8
              have lt_o : zn6 < wi.heap.size := Hoi.out.lt
              go_wp2_with (at_builtin; go_loud (refine wpList_clear_run _ rfl _ _ rfl _ rfl hclr ?_))
              refine (same_same b A1n6 A c1n6 c bs _ (HPi.out.up (zg)) (HAi.out.up (zg)) h8').mono ?_
              rintro e wj ⟨rfl, hbj⟩
              have Hbj := Lib.hid (Holds.up (by have h := Hbi.out; exact zp : Holds _ (w.heap.size) 25 #[.int .i64 b.cool, .int .i64 b.gangs, .int .i64 b.r0, .int .i64 b.r1, .int .i64 b.r2, .int .i64 b.r3, .int .i64 b.r4, .int .i64 b.r5, .slice A bs.length c]) hbj)
              have Hoj := Lib.hid (Holds.up (by have h := Hoi.out; exact zp : Holds _ (zn6) 25 #[.int .i64 b.cool, .int .i64 b.gangs, .int .i64 b.r0, .int .i64 b.r1, .int .i64 b.r2, .int .i64 b.r3, .int .i64 b.r4, .int .i64 b.r5, .slice A1n6 bs.length c1n6]) hbj)
              have HSj : Hid (Below wi.heap.size wi wj) := Lib.hid (Below.trans (zg) (hbj.mono (by first | exact Nat.le_refl _ | omega | (simp; done) | (simp; omega))))
              have HBj : Hid (Below w.heap.size w wj) := Lib.hid (HBi.out.trans (HSj.out.mono hsi))
              have hsj := HBj.out.size
              have hstj := HSj.out.size
              have HAj := Lib.hid (HAi.out.up HSj.out)
              have HPj := Lib.hid (HPi.out.up HSj.out)
              clear hbj
              clear kb0 kb1 kb2 kb3 kb4 kb5 kb6 kb7 kb8 lt_b ko0 ko1 ko2 ko3 ko4 ko5 ko6 ko7 ko8 lt_o
              go_wp2_with fail
              refine (awake_any _).mono ?_
              rintro e w40 ⟨rfl, hb40⟩
              go_wp2_with fail
              go_ret
              exact ⟨rfl, HBj.out.trans (hb40.mono hsj)⟩
        | true =>
          obtain ⟨k, x, rfl, hx⟩ := bin_of hk
          have HX := Lib.hid hx
          have hkl : k < bs.length := (List.getElem?_eq_some_iff.1 hx).1
          have hk1 : (0 : Int) ≤ (k : Int) := by omega
          have hk2 : (k : Int) < (bs.length : Int) := by omega
          clear hk hx
          obtain ⟨l, m, hlo, hhi, hl6, hm6, hmk0, hmk1, hw0, hw1, hc0, hc1, -⟩ := good_bin HG.out HX.out
          have hw60 : x.warm ≤ 60 := by omega
          obtain ⟨E0, oo, eA, hcell⟩ := HAc.out (by omega)
          subst eA
          have ke0 : wc.cell? ⟨E0, oo + k * 4, none⟩ = some (.int .i64 x.warm) := hcell k x HX.out 0 _ rfl
          have ke1 : wc.cell? ⟨E0, oo + k * 4 + 1, none⟩ = some (.int .i64 x.mark) := hcell k x HX.out 1 _ rfl
          have ke2 : wc.cell? ⟨E0, oo + k * 4 + 2, none⟩ = some (.int .i64 x.lo) := hcell k x HX.out 2 _ rfl
          have ke3 : wc.cell? ⟨E0, oo + k * 4 + 3, none⟩ = some (.int .i64 x.hi) := hcell k x HX.out 3 _ rfl
          rw [hlo] at ke2
          rw [hhi] at ke3
          have lE := World.block_lt_of_cell? wc _ ke0
          obtain ⟨r0, hr0⟩ : ∃ z, b.rise x.lo = z := ⟨_, rfl⟩
          obtain ⟨r1, hr1⟩ : ∃ z, b.rise x.hi = z := ⟨_, rfl⟩
          have HRL : Hid (b.rise (l : Int) = r0) := Lib.hid (by rw [← hlo]; exact hr0)
          have HRM : Hid (b.rise (m : Int) = r1) := Lib.hid (by rw [← hhi]; exact hr1)
          have HR0 := Lib.hid hr0
          have HR1 := Lib.hid hr1
          obtain ⟨D1, hD1⟩ : ∃ z, daysOf (b.rise x.hi) x.warm x.mark = z := ⟨_, rfl⟩
          obtain ⟨D2, hD2⟩ : ∃ z, daysOf (b.rise x.hi) b.cool x.mark = z := ⟨_, rfl⟩
          have HD1' := Lib.hid hD1
          have HD2' := Lib.hid hD2
          rw [hr1] at hD1 hD2
          have HLO := Lib.hid hlo
          have HHI := Lib.hid hhi
          have HD1 := HD1'
          have HD2 := HD2'
          have hl6' : (l : Int) < 6 := by omega
          have hm6' : (m : Int) < 6 := by omega
          clear hcell hlo hhi hr0 hr1 hD1 hD2
          go_wp2_with fail
          rename_i Kc hKc
          refine wp_region_partsG (by kernel_rfl) [some 56, some 57, some 58, some 59, some 60, some 61, some 62, some 63, some 64, some 65, some 66, some 67, some 68, some 69, some 70, some 71, some 72, some 73, some 74, some 75, some 76, none, some 13, some 14, some 10] (fun jq xq w' => match jq with
            | 0 => xq 56 = .pointer (some ⟨wc.heap.size + 1 + 1, 2, none⟩)
            | 1 => xq 57 = .pointer (some ⟨wc.heap.size + 1 + 1, 2, none⟩)
            | 2 => xq 58 = .int .i64 (l : Int)
            | 3 => xq 59 = .pointer (some ⟨w.heap.size, 2, none⟩)
            | 4 => xq 60 = .pointer (some ⟨w.heap.size, 2 + l, none⟩)
            | 5 => xq 61 = .int .i64 r0
            | 6 => xq 62 = .pointer (some ⟨wc.heap.size + 1 + 1, 2, none⟩)
            | 7 => xq 63 = .pointer (some ⟨wc.heap.size + 1 + 1, 3, none⟩)
            | 8 => xq 64 = .int .i64 (m : Int)
            | 9 => xq 65 = .pointer (some ⟨w.heap.size, 2, none⟩)
            | 10 => xq 66 = .pointer (some ⟨w.heap.size, 2 + m, none⟩)
            | 11 => xq 67 = .int .i64 r1
            | 12 => xq 68 = .agg #[.int .i64 r0, .int .i64 r1]
            | 13 => xq 69 = .agg #[.int .i64 b.cool, .int .i64 b.gangs, .int .i64 b.r0, .int .i64 b.r1, .int .i64 b.r2, .int .i64 b.r3, .int .i64 b.r4, .int .i64 b.r5, .slice A2n7 bs.length c2n7]
            | 14 => xq 70 = .int .i64 (k : Int)
            | 15 => xq 71 = .pointer (some ⟨wc.heap.size + 1 + 1, 0, none⟩)
            | 16 => xq 72 = .int .i64 x.warm
            | 17 => xq 73 = .int .i64 D1
            | 18 => xq 74 = .agg #[.int .i64 b.cool, .int .i64 b.gangs, .int .i64 b.r0, .int .i64 b.r1, .int .i64 b.r2, .int .i64 b.r3, .int .i64 b.r4, .int .i64 b.r5, .slice A2n7 bs.length c2n7]
            | 19 => xq 75 = .int .i64 (k : Int)
            | 20 => xq 76 = .int .i64 D2
            | 21 => Holds w' (wc.heap.size) 27 #[.int .i64 r0, .int .i64 r1]
            | 22 => xq 13 = .int .i64 D1
            | 23 => xq 14 = .int .i64 D2
            | 24 => xq 10 = .int .i64 0
            | 25 => Holds w' (wc.heap.size) 27 #[.int .i64 0, .int .i64 0]
            | _ => True) [[56], [57], [58], [59], [60], [61], [62], [63], [64], [65], [66], [67], [68], [69], [70], [71], [72], [73], [74], [75], [76], [], [13], [14], [10], []] [(21, 25)] (fun w' => Below wc.heap.size wc w' ∧ wc.heap.size + 1 + 1 + 1 ≤ w'.heap.size ∧ Holds w' (wc.heap.size + 1 + 1) 39 #[.int .i64 x.warm, .int .i64 x.mark, .int .i64 (l : Int), .int .i64 (m : Int)] ∧ Holds w' (wc.heap.size + 1) 25 #[.int .i64 0, .int .i64 0, .int .i64 0, .int .i64 0, .int .i64 0, .int .i64 0, .int .i64 0, .int .i64 0, .slice none 0 0]) (by kernel_rfl)  ?_ ?_ (fun w' w'' hb g => ⟨g.1.trans (hb.mono g.1.size), Nat.le_trans g.2.1 hb.size, g.2.2.1.up hb, g.2.2.2.up hb⟩) (⟨zg, by (simp; done), zp, zp⟩) ?_ ?_ ?_
          · intro jq xq xq' wqq h hv
            match jq, h, hv with
            | 0, h, hv => show xq' 56 = .pointer (some ⟨wc.heap.size + 1 + 1, 2, none⟩); rw [← h 56 (by decide)]; exact hv
            | 1, h, hv => show xq' 57 = .pointer (some ⟨wc.heap.size + 1 + 1, 2, none⟩); rw [← h 57 (by decide)]; exact hv
            | 2, h, hv => show xq' 58 = .int .i64 (l : Int); rw [← h 58 (by decide)]; exact hv
            | 3, h, hv => show xq' 59 = .pointer (some ⟨w.heap.size, 2, none⟩); rw [← h 59 (by decide)]; exact hv
            | 4, h, hv => show xq' 60 = .pointer (some ⟨w.heap.size, 2 + l, none⟩); rw [← h 60 (by decide)]; exact hv
            | 5, h, hv => show xq' 61 = .int .i64 r0; rw [← h 61 (by decide)]; exact hv
            | 6, h, hv => show xq' 62 = .pointer (some ⟨wc.heap.size + 1 + 1, 2, none⟩); rw [← h 62 (by decide)]; exact hv
            | 7, h, hv => show xq' 63 = .pointer (some ⟨wc.heap.size + 1 + 1, 3, none⟩); rw [← h 63 (by decide)]; exact hv
            | 8, h, hv => show xq' 64 = .int .i64 (m : Int); rw [← h 64 (by decide)]; exact hv
            | 9, h, hv => show xq' 65 = .pointer (some ⟨w.heap.size, 2, none⟩); rw [← h 65 (by decide)]; exact hv
            | 10, h, hv => show xq' 66 = .pointer (some ⟨w.heap.size, 2 + m, none⟩); rw [← h 66 (by decide)]; exact hv
            | 11, h, hv => show xq' 67 = .int .i64 r1; rw [← h 67 (by decide)]; exact hv
            | 12, h, hv => show xq' 68 = .agg #[.int .i64 r0, .int .i64 r1]; rw [← h 68 (by decide)]; exact hv
            | 13, h, hv => show xq' 69 = .agg #[.int .i64 b.cool, .int .i64 b.gangs, .int .i64 b.r0, .int .i64 b.r1, .int .i64 b.r2, .int .i64 b.r3, .int .i64 b.r4, .int .i64 b.r5, .slice A2n7 bs.length c2n7]; rw [← h 69 (by decide)]; exact hv
            | 14, h, hv => show xq' 70 = .int .i64 (k : Int); rw [← h 70 (by decide)]; exact hv
            | 15, h, hv => show xq' 71 = .pointer (some ⟨wc.heap.size + 1 + 1, 0, none⟩); rw [← h 71 (by decide)]; exact hv
            | 16, h, hv => show xq' 72 = .int .i64 x.warm; rw [← h 72 (by decide)]; exact hv
            | 17, h, hv => show xq' 73 = .int .i64 D1; rw [← h 73 (by decide)]; exact hv
            | 18, h, hv => show xq' 74 = .agg #[.int .i64 b.cool, .int .i64 b.gangs, .int .i64 b.r0, .int .i64 b.r1, .int .i64 b.r2, .int .i64 b.r3, .int .i64 b.r4, .int .i64 b.r5, .slice A2n7 bs.length c2n7]; rw [← h 74 (by decide)]; exact hv
            | 19, h, hv => show xq' 75 = .int .i64 (k : Int); rw [← h 75 (by decide)]; exact hv
            | 20, h, hv => show xq' 76 = .int .i64 D2; rw [← h 76 (by decide)]; exact hv
            | 21, h, hv => exact hv
            | 22, h, hv => show xq' 13 = .int .i64 D1; rw [← h 13 (by decide)]; exact hv
            | 23, h, hv => show xq' 14 = .int .i64 D2; rw [← h 14 (by decide)]; exact hv
            | 24, h, hv => show xq' 10 = .int .i64 0; rw [← h 10 (by decide)]; exact hv
            | 25, h, hv => exact hv
            | _ + 26, _, _ => trivial
          · intro jq xq wqq w' hb' hv
            match jq, hv with
            | 0, hv => exact hv
            | 1, hv => exact hv
            | 2, hv => exact hv
            | 3, hv => exact hv
            | 4, hv => exact hv
            | 5, hv => exact hv
            | 6, hv => exact hv
            | 7, hv => exact hv
            | 8, hv => exact hv
            | 9, hv => exact hv
            | 10, hv => exact hv
            | 11, hv => exact hv
            | 12, hv => exact hv
            | 13, hv => exact hv
            | 14, hv => exact hv
            | 15, hv => exact hv
            | 16, hv => exact hv
            | 17, hv => exact hv
            | 18, hv => exact hv
            | 19, hv => exact hv
            | 20, hv => exact hv
            | 21, h0 => exact h0.up hb'
            | 22, hv => exact hv
            | 23, hv => exact hv
            | 24, hv => exact hv
            | 25, h0 => exact h0.up hb'
            | _ + 26, _ => trivial
          · intro jq hj
            match jq, hj with
            | 0, hj => exact absurd hj (by decide)
            | 1, hj => exact absurd hj (by decide)
            | 2, hj => exact absurd hj (by decide)
            | 3, hj => exact absurd hj (by decide)
            | 4, hj => exact absurd hj (by decide)
            | 5, hj => exact absurd hj (by decide)
            | 6, hj => exact absurd hj (by decide)
            | 7, hj => exact absurd hj (by decide)
            | 8, hj => exact absurd hj (by decide)
            | 9, hj => exact absurd hj (by decide)
            | 10, hj => exact absurd hj (by decide)
            | 11, hj => exact absurd hj (by decide)
            | 12, hj => exact absurd hj (by decide)
            | 13, hj => exact absurd hj (by decide)
            | 14, hj => exact absurd hj (by decide)
            | 15, hj => exact absurd hj (by decide)
            | 16, hj => exact absurd hj (by decide)
            | 17, hj => exact absurd hj (by decide)
            | 18, hj => exact absurd hj (by decide)
            | 19, hj => exact absurd hj (by decide)
            | 20, hj => exact absurd hj (by decide)
            | 21, hj => exact absurd hj (by decide)
            | 22, hj => exact absurd hj (by decide)
            | 23, hj => exact absurd hj (by decide)
            | 24, hj => exact absurd hj (by decide)
            | 25, _ => exact (show Holds _ (wc.heap.size) 27 #[.int .i64 0, .int .i64 0] from zp)
            | _ + 26, _ => trivial
          · refine ⟨?_, ?_, ?_, ?_, ?_, ?_, ?_, ?_, ?_, ?_, ?_, ?_, ?_, ?_, ?_, ?_, ?_, ?_, ?_, ?_, ?_, ?_, ?_, ?_, ?_, trivial⟩
            · intro xq wd hbd hx K hK0
              have hK := fun v w' hb => hK0 v w' (.inl hb)
              clear hx hKc hK0
              simp only [frameOf, fill, setSlot, List.contains_cons, List.contains_nil, Nat.reduceBEq, Bool.or_false, Bool.false_or, Bool.or_true, Bool.true_or, if_true, if_false, Bool.false_eq_true, Nat.reduceAdd, Nat.reduceEqDiff, List.getD_cons_zero, List.getD_cons_succ, Nat.zero_add, show slotsOf [some 56, some 57, some 58, some 59, some 60, some 61, some 62, some 63, some 64, some 65, some 66, some 67, some 68, some 69, some 70, some 71, some 72, some 73, some 74, some 75, some 76, none, some 13, some 14, some 10] = [56, 57, 58, 59, 60, 61, 62, 63, 64, 65, 66, 67, 68, 69, 70, 71, 72, 73, 74, 75, 76, 13, 14, 10] from rfl] at hK ⊢
              go_wp2_with (fail)
              exact hK _ _ (Below.refl _ _) rfl
            · intro xq wd hbd hx K hK0
              have hK := fun v w' hb => hK0 v w' (.inl hb)
              have e56 : xq 56 = .pointer (some ⟨wc.heap.size + 1 + 1, 2, none⟩) := hx 0 (by rfl) (by rfl)
              clear hx hKc hK0
              simp only [frameOf, fill, setSlot, List.contains_cons, List.contains_nil, Nat.reduceBEq, Bool.or_false, Bool.false_or, Bool.or_true, Bool.true_or, if_true, if_false, Bool.false_eq_true, Nat.reduceAdd, Nat.reduceEqDiff, List.getD_cons_zero, List.getD_cons_succ, Nat.zero_add, show slotsOf [some 56, some 57, some 58, some 59, some 60, some 61, some 62, some 63, some 64, some 65, some 66, some 67, some 68, some 69, some 70, some 71, some 72, some 73, some 74, some 75, some 76, none, some 13, some 14, some 10] = [56, 57, 58, 59, 60, 61, 62, 63, 64, 65, 66, 67, 68, 69, 70, 71, 72, 73, 74, 75, 76, 13, 14, 10] from rfl] at hK ⊢
              simp only [e56] at hK ⊢
              clear e56
              go_wp2_with (fail)
              exact hK _ _ (Below.refl _ _) rfl
            · intro xq wd hbd hx K hK0
              have hK := fun v w' hb => hK0 v w' (.inl hb)
              have e57 : xq 57 = .pointer (some ⟨wc.heap.size + 1 + 1, 2, none⟩) := hx 1 (by rfl) (by rfl)
              clear hx hKc hK0
              have q58 : wd.cell? ⟨wc.heap.size + 1 + 1, 2, none⟩ = some (.int .i64 (l : Int)) := hbd.2.2.1.cell 2
              simp only [frameOf, fill, setSlot, List.contains_cons, List.contains_nil, Nat.reduceBEq, Bool.or_false, Bool.false_or, Bool.or_true, Bool.true_or, if_true, if_false, Bool.false_eq_true, Nat.reduceAdd, Nat.reduceEqDiff, List.getD_cons_zero, List.getD_cons_succ, Nat.zero_add, show slotsOf [some 56, some 57, some 58, some 59, some 60, some 61, some 62, some 63, some 64, some 65, some 66, some 67, some 68, some 69, some 70, some 71, some 72, some 73, some 74, some 75, some 76, none, some 13, some 14, some 10] = [56, 57, 58, 59, 60, 61, 62, 63, 64, 65, 66, 67, 68, 69, 70, 71, 72, 73, 74, 75, 76, 13, 14, 10] from rfl] at hK ⊢
              simp only [e57] at hK ⊢
              clear e57
              go_wp2_with (fail)
              exact hK _ _ (Below.refl _ _) rfl
            · intro xq wd hbd hx K hK0
              have hK := fun v w' hb => hK0 v w' (.inl hb)
              clear hx hKc hK0
              simp only [frameOf, fill, setSlot, List.contains_cons, List.contains_nil, Nat.reduceBEq, Bool.or_false, Bool.false_or, Bool.or_true, Bool.true_or, if_true, if_false, Bool.false_eq_true, Nat.reduceAdd, Nat.reduceEqDiff, List.getD_cons_zero, List.getD_cons_succ, Nat.zero_add, show slotsOf [some 56, some 57, some 58, some 59, some 60, some 61, some 62, some 63, some 64, some 65, some 66, some 67, some 68, some 69, some 70, some 71, some 72, some 73, some 74, some 75, some 76, none, some 13, some 14, some 10] = [56, 57, 58, 59, 60, 61, 62, 63, 64, 65, 66, 67, 68, 69, 70, 71, 72, 73, 74, 75, 76, 13, 14, 10] from rfl] at hK ⊢
              go_wp2_with (fail)
              exact hK _ _ (Below.refl _ _) rfl
            · intro xq wd hbd hx K hK0
              have hK := fun v w' hb => hK0 v w' (.inl hb)
              have e58 : xq 58 = .int .i64 (l : Int) := hx 2 (by rfl) (by rfl)
              have e59 : xq 59 = .pointer (some ⟨w.heap.size, 2, none⟩) := hx 3 (by rfl) (by rfl)
              clear hx hKc hK0
              simp only [frameOf, fill, setSlot, List.contains_cons, List.contains_nil, Nat.reduceBEq, Bool.or_false, Bool.false_or, Bool.or_true, Bool.true_or, if_true, if_false, Bool.false_eq_true, Nat.reduceAdd, Nat.reduceEqDiff, List.getD_cons_zero, List.getD_cons_succ, Nat.zero_add, show slotsOf [some 56, some 57, some 58, some 59, some 60, some 61, some 62, some 63, some 64, some 65, some 66, some 67, some 68, some 69, some 70, some 71, some 72, some 73, some 74, some 75, some 76, none, some 13, some 14, some 10] = [56, 57, 58, 59, 60, 61, 62, 63, 64, 65, 66, 67, 68, 69, 70, 71, 72, 73, 74, 75, 76, 13, 14, 10] from rfl] at hK ⊢
              simp only [e58, e59] at hK ⊢
              clear e58 e59
              go_wp2_with (fail)
              exact hK _ _ (Below.refl _ _) rfl
            · intro xq wd hbd hx K hK0
              have hK := fun v w' hb => hK0 v w' (.inl hb)
              have e60 : xq 60 = .pointer (some ⟨w.heap.size, 2 + l, none⟩) := hx 4 (by rfl) (by rfl)
              clear hx hKc hK0
              have q61 : wd.cell? ⟨w.heap.size, 2 + l, none⟩ = some (.int .i64 r0) := by have h := rise_nat (b := b) (Hbc.out.up hbd.1) hl6; rw [HRL.out] at h; exact h
              simp only [frameOf, fill, setSlot, List.contains_cons, List.contains_nil, Nat.reduceBEq, Bool.or_false, Bool.false_or, Bool.or_true, Bool.true_or, if_true, if_false, Bool.false_eq_true, Nat.reduceAdd, Nat.reduceEqDiff, List.getD_cons_zero, List.getD_cons_succ, Nat.zero_add, show slotsOf [some 56, some 57, some 58, some 59, some 60, some 61, some 62, some 63, some 64, some 65, some 66, some 67, some 68, some 69, some 70, some 71, some 72, some 73, some 74, some 75, some 76, none, some 13, some 14, some 10] = [56, 57, 58, 59, 60, 61, 62, 63, 64, 65, 66, 67, 68, 69, 70, 71, 72, 73, 74, 75, 76, 13, 14, 10] from rfl] at hK ⊢
              simp only [e60] at hK ⊢
              clear e60
              go_wp2_with (fail)
              exact hK _ _ (Below.refl _ _) rfl
            · intro xq wd hbd hx K hK0
              have hK := fun v w' hb => hK0 v w' (.inl hb)
              clear hx hKc hK0
              simp only [frameOf, fill, setSlot, List.contains_cons, List.contains_nil, Nat.reduceBEq, Bool.or_false, Bool.false_or, Bool.or_true, Bool.true_or, if_true, if_false, Bool.false_eq_true, Nat.reduceAdd, Nat.reduceEqDiff, List.getD_cons_zero, List.getD_cons_succ, Nat.zero_add, show slotsOf [some 56, some 57, some 58, some 59, some 60, some 61, some 62, some 63, some 64, some 65, some 66, some 67, some 68, some 69, some 70, some 71, some 72, some 73, some 74, some 75, some 76, none, some 13, some 14, some 10] = [56, 57, 58, 59, 60, 61, 62, 63, 64, 65, 66, 67, 68, 69, 70, 71, 72, 73, 74, 75, 76, 13, 14, 10] from rfl] at hK ⊢
              go_wp2_with (fail)
              exact hK _ _ (Below.refl _ _) rfl
            · intro xq wd hbd hx K hK0
              have hK := fun v w' hb => hK0 v w' (.inl hb)
              have e62 : xq 62 = .pointer (some ⟨wc.heap.size + 1 + 1, 2, none⟩) := hx 6 (by rfl) (by rfl)
              clear hx hKc hK0
              simp only [frameOf, fill, setSlot, List.contains_cons, List.contains_nil, Nat.reduceBEq, Bool.or_false, Bool.false_or, Bool.or_true, Bool.true_or, if_true, if_false, Bool.false_eq_true, Nat.reduceAdd, Nat.reduceEqDiff, List.getD_cons_zero, List.getD_cons_succ, Nat.zero_add, show slotsOf [some 56, some 57, some 58, some 59, some 60, some 61, some 62, some 63, some 64, some 65, some 66, some 67, some 68, some 69, some 70, some 71, some 72, some 73, some 74, some 75, some 76, none, some 13, some 14, some 10] = [56, 57, 58, 59, 60, 61, 62, 63, 64, 65, 66, 67, 68, 69, 70, 71, 72, 73, 74, 75, 76, 13, 14, 10] from rfl] at hK ⊢
              simp only [e62] at hK ⊢
              clear e62
              go_wp2_with (fail)
              exact hK _ _ (Below.refl _ _) rfl
            · intro xq wd hbd hx K hK0
              have hK := fun v w' hb => hK0 v w' (.inl hb)
              have e63 : xq 63 = .pointer (some ⟨wc.heap.size + 1 + 1, 3, none⟩) := hx 7 (by rfl) (by rfl)
              clear hx hKc hK0
              have q64 : wd.cell? ⟨wc.heap.size + 1 + 1, 3, none⟩ = some (.int .i64 (m : Int)) := hbd.2.2.1.cell 3
              simp only [frameOf, fill, setSlot, List.contains_cons, List.contains_nil, Nat.reduceBEq, Bool.or_false, Bool.false_or, Bool.or_true, Bool.true_or, if_true, if_false, Bool.false_eq_true, Nat.reduceAdd, Nat.reduceEqDiff, List.getD_cons_zero, List.getD_cons_succ, Nat.zero_add, show slotsOf [some 56, some 57, some 58, some 59, some 60, some 61, some 62, some 63, some 64, some 65, some 66, some 67, some 68, some 69, some 70, some 71, some 72, some 73, some 74, some 75, some 76, none, some 13, some 14, some 10] = [56, 57, 58, 59, 60, 61, 62, 63, 64, 65, 66, 67, 68, 69, 70, 71, 72, 73, 74, 75, 76, 13, 14, 10] from rfl] at hK ⊢
              simp only [e63] at hK ⊢
              clear e63
              go_wp2_with (fail)
              exact hK _ _ (Below.refl _ _) rfl
            · intro xq wd hbd hx K hK0
              have hK := fun v w' hb => hK0 v w' (.inl hb)
              clear hx hKc hK0
              simp only [frameOf, fill, setSlot, List.contains_cons, List.contains_nil, Nat.reduceBEq, Bool.or_false, Bool.false_or, Bool.or_true, Bool.true_or, if_true, if_false, Bool.false_eq_true, Nat.reduceAdd, Nat.reduceEqDiff, List.getD_cons_zero, List.getD_cons_succ, Nat.zero_add, show slotsOf [some 56, some 57, some 58, some 59, some 60, some 61, some 62, some 63, some 64, some 65, some 66, some 67, some 68, some 69, some 70, some 71, some 72, some 73, some 74, some 75, some 76, none, some 13, some 14, some 10] = [56, 57, 58, 59, 60, 61, 62, 63, 64, 65, 66, 67, 68, 69, 70, 71, 72, 73, 74, 75, 76, 13, 14, 10] from rfl] at hK ⊢
              go_wp2_with (fail)
              exact hK _ _ (Below.refl _ _) rfl
            · intro xq wd hbd hx K hK0
              have hK := fun v w' hb => hK0 v w' (.inl hb)
              have e64 : xq 64 = .int .i64 (m : Int) := hx 8 (by rfl) (by rfl)
              have e65 : xq 65 = .pointer (some ⟨w.heap.size, 2, none⟩) := hx 9 (by rfl) (by rfl)
              clear hx hKc hK0
              simp only [frameOf, fill, setSlot, List.contains_cons, List.contains_nil, Nat.reduceBEq, Bool.or_false, Bool.false_or, Bool.or_true, Bool.true_or, if_true, if_false, Bool.false_eq_true, Nat.reduceAdd, Nat.reduceEqDiff, List.getD_cons_zero, List.getD_cons_succ, Nat.zero_add, show slotsOf [some 56, some 57, some 58, some 59, some 60, some 61, some 62, some 63, some 64, some 65, some 66, some 67, some 68, some 69, some 70, some 71, some 72, some 73, some 74, some 75, some 76, none, some 13, some 14, some 10] = [56, 57, 58, 59, 60, 61, 62, 63, 64, 65, 66, 67, 68, 69, 70, 71, 72, 73, 74, 75, 76, 13, 14, 10] from rfl] at hK ⊢
              simp only [e64, e65] at hK ⊢
              clear e64 e65
              go_wp2_with (fail)
              exact hK _ _ (Below.refl _ _) rfl
            · intro xq wd hbd hx K hK0
              have hK := fun v w' hb => hK0 v w' (.inl hb)
              have e66 : xq 66 = .pointer (some ⟨w.heap.size, 2 + m, none⟩) := hx 10 (by rfl) (by rfl)
              clear hx hKc hK0
              have q67 : wd.cell? ⟨w.heap.size, 2 + m, none⟩ = some (.int .i64 r1) := by have h := rise_nat (b := b) (Hbc.out.up hbd.1) hm6; rw [HRM.out] at h; exact h
              simp only [frameOf, fill, setSlot, List.contains_cons, List.contains_nil, Nat.reduceBEq, Bool.or_false, Bool.false_or, Bool.or_true, Bool.true_or, if_true, if_false, Bool.false_eq_true, Nat.reduceAdd, Nat.reduceEqDiff, List.getD_cons_zero, List.getD_cons_succ, Nat.zero_add, show slotsOf [some 56, some 57, some 58, some 59, some 60, some 61, some 62, some 63, some 64, some 65, some 66, some 67, some 68, some 69, some 70, some 71, some 72, some 73, some 74, some 75, some 76, none, some 13, some 14, some 10] = [56, 57, 58, 59, 60, 61, 62, 63, 64, 65, 66, 67, 68, 69, 70, 71, 72, 73, 74, 75, 76, 13, 14, 10] from rfl] at hK ⊢
              simp only [e66] at hK ⊢
              clear e66
              go_wp2_with (fail)
              exact hK _ _ (Below.refl _ _) rfl
            · intro xq wd hbd hx K hK0
              have hK := fun v w' hb => hK0 v w' (.inl hb)
              have e61 : xq 61 = .int .i64 r0 := hx 5 (by rfl) (by rfl)
              have e67 : xq 67 = .int .i64 r1 := hx 11 (by rfl) (by rfl)
              clear hx hKc hK0
              simp only [frameOf, fill, setSlot, List.contains_cons, List.contains_nil, Nat.reduceBEq, Bool.or_false, Bool.false_or, Bool.or_true, Bool.true_or, if_true, if_false, Bool.false_eq_true, Nat.reduceAdd, Nat.reduceEqDiff, List.getD_cons_zero, List.getD_cons_succ, Nat.zero_add, show slotsOf [some 56, some 57, some 58, some 59, some 60, some 61, some 62, some 63, some 64, some 65, some 66, some 67, some 68, some 69, some 70, some 71, some 72, some 73, some 74, some 75, some 76, none, some 13, some 14, some 10] = [56, 57, 58, 59, 60, 61, 62, 63, 64, 65, 66, 67, 68, 69, 70, 71, 72, 73, 74, 75, 76, 13, 14, 10] from rfl] at hK ⊢
              simp only [e61, e67] at hK ⊢
              clear e61 e67
              go_wp2_with (fail)
              exact hK _ _ (Below.refl _ _) rfl
            · intro xq wd hbd hx K hK0
              have hK := fun v w' hb => hK0 v w' (.inl hb)
              clear hx hKc hK0
              have kx0' : wd.cell? ⟨zn7, 0, none⟩ = some (.int .i64 b.cool) := (Hxc.out.up hbd.1).cell 0
              have kx1' : wd.cell? ⟨zn7, 1, none⟩ = some (.int .i64 b.gangs) := (Hxc.out.up hbd.1).cell 1
              have kx2' : wd.cell? ⟨zn7, 2, none⟩ = some (.int .i64 b.r0) := (Hxc.out.up hbd.1).cell 2
              have kx3' : wd.cell? ⟨zn7, 3, none⟩ = some (.int .i64 b.r1) := (Hxc.out.up hbd.1).cell 3
              have kx4' : wd.cell? ⟨zn7, 4, none⟩ = some (.int .i64 b.r2) := (Hxc.out.up hbd.1).cell 4
              have kx5' : wd.cell? ⟨zn7, 5, none⟩ = some (.int .i64 b.r3) := (Hxc.out.up hbd.1).cell 5
              have kx6' : wd.cell? ⟨zn7, 6, none⟩ = some (.int .i64 b.r4) := (Hxc.out.up hbd.1).cell 6
              have kx7' : wd.cell? ⟨zn7, 7, none⟩ = some (.int .i64 b.r5) := (Hxc.out.up hbd.1).cell 7
              have kx8' : wd.cell? ⟨zn7, 8, none⟩ = some (.slice A2n7 bs.length c2n7) := (Hxc.out.up hbd.1).cell 8
              simp only [frameOf, fill, setSlot, List.contains_cons, List.contains_nil, Nat.reduceBEq, Bool.or_false, Bool.false_or, Bool.or_true, Bool.true_or, if_true, if_false, Bool.false_eq_true, Nat.reduceAdd, Nat.reduceEqDiff, List.getD_cons_zero, List.getD_cons_succ, Nat.zero_add, show slotsOf [some 56, some 57, some 58, some 59, some 60, some 61, some 62, some 63, some 64, some 65, some 66, some 67, some 68, some 69, some 70, some 71, some 72, some 73, some 74, some 75, some 76, none, some 13, some 14, some 10] = [56, 57, 58, 59, 60, 61, 62, 63, 64, 65, 66, 67, 68, 69, 70, 71, 72, 73, 74, 75, 76, 13, 14, 10] from rfl] at hK ⊢
              go_wp2_with (fail)
              exact hK _ _ (Below.refl _ _) rfl
            · intro xq wd hbd hx K hK0
              have hK := fun v w' hb => hK0 v w' (.inl hb)
              clear hx hKc hK0
              simp only [frameOf, fill, setSlot, List.contains_cons, List.contains_nil, Nat.reduceBEq, Bool.or_false, Bool.false_or, Bool.or_true, Bool.true_or, if_true, if_false, Bool.false_eq_true, Nat.reduceAdd, Nat.reduceEqDiff, List.getD_cons_zero, List.getD_cons_succ, Nat.zero_add, show slotsOf [some 56, some 57, some 58, some 59, some 60, some 61, some 62, some 63, some 64, some 65, some 66, some 67, some 68, some 69, some 70, some 71, some 72, some 73, some 74, some 75, some 76, none, some 13, some 14, some 10] = [56, 57, 58, 59, 60, 61, 62, 63, 64, 65, 66, 67, 68, 69, 70, 71, 72, 73, 74, 75, 76, 13, 14, 10] from rfl] at hK ⊢
              go_wp2_with (fail)
              exact hK _ _ (Below.refl _ _) rfl
            · intro xq wd hbd hx K hK0
              have hK := fun v w' hb => hK0 v w' (.inl hb)
              clear hx hKc hK0
              simp only [frameOf, fill, setSlot, List.contains_cons, List.contains_nil, Nat.reduceBEq, Bool.or_false, Bool.false_or, Bool.or_true, Bool.true_or, if_true, if_false, Bool.false_eq_true, Nat.reduceAdd, Nat.reduceEqDiff, List.getD_cons_zero, List.getD_cons_succ, Nat.zero_add, show slotsOf [some 56, some 57, some 58, some 59, some 60, some 61, some 62, some 63, some 64, some 65, some 66, some 67, some 68, some 69, some 70, some 71, some 72, some 73, some 74, some 75, some 76, none, some 13, some 14, some 10] = [56, 57, 58, 59, 60, 61, 62, 63, 64, 65, 66, 67, 68, 69, 70, 71, 72, 73, 74, 75, 76, 13, 14, 10] from rfl] at hK ⊢
              go_wp2_with (fail)
              exact hK _ _ (Below.refl _ _) rfl
            · intro xq wd hbd hx K hK0
              have hK := fun v w' hb => hK0 v w' (.inl hb)
              have e71 : xq 71 = .pointer (some ⟨wc.heap.size + 1 + 1, 0, none⟩) := hx 15 (by rfl) (by rfl)
              clear hx hKc hK0
              have q72 : wd.cell? ⟨wc.heap.size + 1 + 1, 0, none⟩ = some (.int .i64 x.warm) := hbd.2.2.1.cell 0
              simp only [frameOf, fill, setSlot, List.contains_cons, List.contains_nil, Nat.reduceBEq, Bool.or_false, Bool.false_or, Bool.or_true, Bool.true_or, if_true, if_false, Bool.false_eq_true, Nat.reduceAdd, Nat.reduceEqDiff, List.getD_cons_zero, List.getD_cons_succ, Nat.zero_add, show slotsOf [some 56, some 57, some 58, some 59, some 60, some 61, some 62, some 63, some 64, some 65, some 66, some 67, some 68, some 69, some 70, some 71, some 72, some 73, some 74, some 75, some 76, none, some 13, some 14, some 10] = [56, 57, 58, 59, 60, 61, 62, 63, 64, 65, 66, 67, 68, 69, 70, 71, 72, 73, 74, 75, 76, 13, 14, 10] from rfl] at hK ⊢
              simp only [e71] at hK ⊢
              clear e71
              go_wp2_with (fail)
              exact hK _ _ (Below.refl _ _) rfl
            · intro xq wd hbd hx K hK0
              have hK := fun v w' hb => hK0 v w' (.inl hb)
              have e69 : xq 69 = .agg #[.int .i64 b.cool, .int .i64 b.gangs, .int .i64 b.r0, .int .i64 b.r1, .int .i64 b.r2, .int .i64 b.r3, .int .i64 b.r4, .int .i64 b.r5, .slice A2n7 bs.length c2n7] := hx 13 (by rfl) (by rfl)
              have e70 : xq 70 = .int .i64 (k : Int) := hx 14 (by rfl) (by rfl)
              have e72 : xq 72 = .int .i64 x.warm := hx 16 (by rfl) (by rfl)
              clear hx hKc hK0
              simp only [frameOf, fill, setSlot, List.contains_cons, List.contains_nil, Nat.reduceBEq, Bool.or_false, Bool.false_or, Bool.or_true, Bool.true_or, if_true, if_false, Bool.false_eq_true, Nat.reduceAdd, Nat.reduceEqDiff, List.getD_cons_zero, List.getD_cons_succ, Nat.zero_add, show slotsOf [some 56, some 57, some 58, some 59, some 60, some 61, some 62, some 63, some 64, some 65, some 66, some 67, some 68, some 69, some 70, some 71, some 72, some 73, some 74, some 75, some 76, none, some 13, some 14, some 10] = [56, 57, 58, 59, 60, 61, 62, 63, 64, 65, 66, 67, 68, 69, 70, 71, 72, 73, 74, 75, 76, 13, 14, 10] from rfl] at hK ⊢
              simp only [e69, e70, e72] at hK ⊢
              clear e69 e70 e72
              go_wp2_with (go_at_call 15; refine (refLeft_any b A2n7 c2n7 bs _ (HMc.out.up hbd.1) h8' HG.out k x HX.out x.warm hw0 hw60).mono ?_; rw [HD1.out]; rintro e w2_ ⟨rfl, hb_⟩)
              exact hK _ _ hb_ rfl
            · intro xq wd hbd hx K hK0
              have hK := fun v w' hb => hK0 v w' (.inl hb)
              clear hx hKc hK0
              have kx0' : wd.cell? ⟨zn7, 0, none⟩ = some (.int .i64 b.cool) := (Hxc.out.up hbd.1).cell 0
              have kx1' : wd.cell? ⟨zn7, 1, none⟩ = some (.int .i64 b.gangs) := (Hxc.out.up hbd.1).cell 1
              have kx2' : wd.cell? ⟨zn7, 2, none⟩ = some (.int .i64 b.r0) := (Hxc.out.up hbd.1).cell 2
              have kx3' : wd.cell? ⟨zn7, 3, none⟩ = some (.int .i64 b.r1) := (Hxc.out.up hbd.1).cell 3
              have kx4' : wd.cell? ⟨zn7, 4, none⟩ = some (.int .i64 b.r2) := (Hxc.out.up hbd.1).cell 4
              have kx5' : wd.cell? ⟨zn7, 5, none⟩ = some (.int .i64 b.r3) := (Hxc.out.up hbd.1).cell 5
              have kx6' : wd.cell? ⟨zn7, 6, none⟩ = some (.int .i64 b.r4) := (Hxc.out.up hbd.1).cell 6
              have kx7' : wd.cell? ⟨zn7, 7, none⟩ = some (.int .i64 b.r5) := (Hxc.out.up hbd.1).cell 7
              have kx8' : wd.cell? ⟨zn7, 8, none⟩ = some (.slice A2n7 bs.length c2n7) := (Hxc.out.up hbd.1).cell 8
              simp only [frameOf, fill, setSlot, List.contains_cons, List.contains_nil, Nat.reduceBEq, Bool.or_false, Bool.false_or, Bool.or_true, Bool.true_or, if_true, if_false, Bool.false_eq_true, Nat.reduceAdd, Nat.reduceEqDiff, List.getD_cons_zero, List.getD_cons_succ, Nat.zero_add, show slotsOf [some 56, some 57, some 58, some 59, some 60, some 61, some 62, some 63, some 64, some 65, some 66, some 67, some 68, some 69, some 70, some 71, some 72, some 73, some 74, some 75, some 76, none, some 13, some 14, some 10] = [56, 57, 58, 59, 60, 61, 62, 63, 64, 65, 66, 67, 68, 69, 70, 71, 72, 73, 74, 75, 76, 13, 14, 10] from rfl] at hK ⊢
              go_wp2_with (fail)
              exact hK _ _ (Below.refl _ _) rfl
            · intro xq wd hbd hx K hK0
              have hK := fun v w' hb => hK0 v w' (.inl hb)
              clear hx hKc hK0
              simp only [frameOf, fill, setSlot, List.contains_cons, List.contains_nil, Nat.reduceBEq, Bool.or_false, Bool.false_or, Bool.or_true, Bool.true_or, if_true, if_false, Bool.false_eq_true, Nat.reduceAdd, Nat.reduceEqDiff, List.getD_cons_zero, List.getD_cons_succ, Nat.zero_add, show slotsOf [some 56, some 57, some 58, some 59, some 60, some 61, some 62, some 63, some 64, some 65, some 66, some 67, some 68, some 69, some 70, some 71, some 72, some 73, some 74, some 75, some 76, none, some 13, some 14, some 10] = [56, 57, 58, 59, 60, 61, 62, 63, 64, 65, 66, 67, 68, 69, 70, 71, 72, 73, 74, 75, 76, 13, 14, 10] from rfl] at hK ⊢
              go_wp2_with (fail)
              exact hK _ _ (Below.refl _ _) rfl
            · intro xq wd hbd hx K hK0
              have hK := fun v w' hb => hK0 v w' (.inl hb)
              have e74 : xq 74 = .agg #[.int .i64 b.cool, .int .i64 b.gangs, .int .i64 b.r0, .int .i64 b.r1, .int .i64 b.r2, .int .i64 b.r3, .int .i64 b.r4, .int .i64 b.r5, .slice A2n7 bs.length c2n7] := hx 18 (by rfl) (by rfl)
              have e75 : xq 75 = .int .i64 (k : Int) := hx 19 (by rfl) (by rfl)
              clear hx hKc hK0
              simp only [frameOf, fill, setSlot, List.contains_cons, List.contains_nil, Nat.reduceBEq, Bool.or_false, Bool.false_or, Bool.or_true, Bool.true_or, if_true, if_false, Bool.false_eq_true, Nat.reduceAdd, Nat.reduceEqDiff, List.getD_cons_zero, List.getD_cons_succ, Nat.zero_add, show slotsOf [some 56, some 57, some 58, some 59, some 60, some 61, some 62, some 63, some 64, some 65, some 66, some 67, some 68, some 69, some 70, some 71, some 72, some 73, some 74, some 75, some 76, none, some 13, some 14, some 10] = [56, 57, 58, 59, 60, 61, 62, 63, 64, 65, 66, 67, 68, 69, 70, 71, 72, 73, 74, 75, 76, 13, 14, 10] from rfl] at hK ⊢
              simp only [e74, e75] at hK ⊢
              clear e74 e75
              go_wp2_with (go_at_call 16; refine (refLasts_any b A2n7 c2n7 bs _ (HMc.out.up hbd.1) h8' HG.out k x HX.out).mono ?_; rw [HD2.out]; rintro e w2_ ⟨rfl, hb_⟩)
              exact hK _ _ hb_ rfl
            · intro xq wd hbd hx K hK0
              have hK := fun v w' hb => hK0 v w' (.inr hb)
              have e68 : xq 68 = .agg #[.int .i64 r0, .int .i64 r1] := hx 12 (by rfl) (by rfl)
              have fis_0 : Holds wd (wc.heap.size) 27 #[.int .i64 0, .int .i64 0] := hx 25 (by rfl) (by rfl)
              clear hx hKc hK0
              have ltS : wc.heap.size < wd.heap.size := by have := hbd.2.1; omega
              have kS0 : wd.cell? ⟨wc.heap.size, 0, none⟩ = some (.int .i64 0) := fis_0.cell 0
              have kS1 : wd.cell? ⟨wc.heap.size, 1, none⟩ = some (.int .i64 0) := fis_0.cell 1
              have zS0 : wd.frozen? ⟨wc.heap.size, 0, none⟩ = false := fis_0.frozen 0
              have zS1 : wd.frozen? ⟨wc.heap.size, 1, none⟩ = false := fis_0.frozen 1
              simp only [frameOf, fill, setSlot, List.contains_cons, List.contains_nil, Nat.reduceBEq, Bool.or_false, Bool.false_or, Bool.or_true, Bool.true_or, if_true, if_false, Bool.false_eq_true, Nat.reduceAdd, Nat.reduceEqDiff, List.getD_cons_zero, List.getD_cons_succ, Nat.zero_add, show slotsOf [some 56, some 57, some 58, some 59, some 60, some 61, some 62, some 63, some 64, some 65, some 66, some 67, some 68, some 69, some 70, some 71, some 72, some 73, some 74, some 75, some 76, none, some 13, some 14, some 10] = [56, 57, 58, 59, 60, 61, 62, 63, 64, 65, 66, 67, 68, 69, 70, 71, 72, 73, 74, 75, 76, 13, 14, 10] from rfl] at hK ⊢
              have E68 := Lib.hid e68
              simp only [e68] at hK ⊢
              clear e68
              go_wp2_with (fail)
              refine hK undef _ ⟨(by have h := hbd; exact ⟨h.1.trans (zg), by simp only [World.size_setCell]; exact h.2.1, by (have h' := h.2.2.1; (repeat first | (with_reducible assumption) | (with_reducible apply Holds.set4) | (with_reducible apply Holds.set2) | (with_reducible apply Holds.putL) | ((with_reducible refine Holds.new' _ _ ?_); (simp; done)) | (with_reducible refine Holds.alloc ?_ _) | (with_reducible refine Holds.drew ?_) | ((with_reducible refine Holds.far ?_ (by simp only [ne_eq]; omega) _)) | rfl)), by (have h' := h.2.2.2; (repeat first | (with_reducible assumption) | (with_reducible apply Holds.set4) | (with_reducible apply Holds.set2) | (with_reducible apply Holds.putL) | ((with_reducible refine Holds.new' _ _ ?_); (simp; done)) | (with_reducible refine Holds.alloc ?_ _) | (with_reducible refine Holds.drew ?_) | ((with_reducible refine Holds.far ?_ (by simp only [ne_eq]; omega) _)) | rfl))⟩), ?_⟩ (Holds.set2 _ _ fis_0)
              intro jq xq hd hne hv
              match jq, hd, hne, hv with
              | 0, _, _, hv => exact hv
              | 1, _, _, hv => exact hv
              | 2, _, _, hv => exact hv
              | 3, _, _, hv => exact hv
              | 4, _, _, hv => exact hv
              | 5, _, _, hv => exact hv
              | 6, _, _, hv => exact hv
              | 7, _, _, hv => exact hv
              | 8, _, _, hv => exact hv
              | 9, _, _, hv => exact hv
              | 10, _, _, hv => exact hv
              | 11, _, _, hv => exact hv
              | 12, _, _, hv => exact hv
              | 13, _, _, hv => exact hv
              | 14, _, _, hv => exact hv
              | 15, _, _, hv => exact hv
              | 16, _, _, hv => exact hv
              | 17, _, _, hv => exact hv
              | 18, _, _, hv => exact hv
              | 19, _, _, hv => exact hv
              | 20, _, _, hv => exact hv
              | 21, _, hne, _ => exact absurd rfl hne
              | 22, _, _, hv => exact hv
              | 23, _, _, hv => exact hv
              | 24, _, _, hv => exact hv
              | 25, hd, _, _ => exact absurd hd (by decide)
              | _ + 26, _, _, _ => trivial
            · intro xq wd hbd hx K hK0
              have hK := fun v w' hb => hK0 v w' (.inl hb)
              have e73 : xq 73 = .int .i64 D1 := hx 17 (by rfl) (by rfl)
              clear hx hKc hK0
              simp only [frameOf, fill, setSlot, List.contains_cons, List.contains_nil, Nat.reduceBEq, Bool.or_false, Bool.false_or, Bool.or_true, Bool.true_or, if_true, if_false, Bool.false_eq_true, Nat.reduceAdd, Nat.reduceEqDiff, List.getD_cons_zero, List.getD_cons_succ, Nat.zero_add, show slotsOf [some 56, some 57, some 58, some 59, some 60, some 61, some 62, some 63, some 64, some 65, some 66, some 67, some 68, some 69, some 70, some 71, some 72, some 73, some 74, some 75, some 76, none, some 13, some 14, some 10] = [56, 57, 58, 59, 60, 61, 62, 63, 64, 65, 66, 67, 68, 69, 70, 71, 72, 73, 74, 75, 76, 13, 14, 10] from rfl] at hK ⊢
              simp only [e73] at hK ⊢
              clear e73
              go_wp2_with (fail)
              exact hK _ _ (Below.refl _ _) rfl
            · intro xq wd hbd hx K hK0
              have hK := fun v w' hb => hK0 v w' (.inl hb)
              have e76 : xq 76 = .int .i64 D2 := hx 20 (by rfl) (by rfl)
              clear hx hKc hK0
              simp only [frameOf, fill, setSlot, List.contains_cons, List.contains_nil, Nat.reduceBEq, Bool.or_false, Bool.false_or, Bool.or_true, Bool.true_or, if_true, if_false, Bool.false_eq_true, Nat.reduceAdd, Nat.reduceEqDiff, List.getD_cons_zero, List.getD_cons_succ, Nat.zero_add, show slotsOf [some 56, some 57, some 58, some 59, some 60, some 61, some 62, some 63, some 64, some 65, some 66, some 67, some 68, some 69, some 70, some 71, some 72, some 73, some 74, some 75, some 76, none, some 13, some 14, some 10] = [56, 57, 58, 59, 60, 61, 62, 63, 64, 65, 66, 67, 68, 69, 70, 71, 72, 73, 74, 75, 76, 13, 14, 10] from rfl] at hK ⊢
              simp only [e76] at hK ⊢
              clear e76
              go_wp2_with (fail)
              exact hK _ _ (Below.refl _ _) rfl
            · intro xq wd hbd hx K hK0
              have hK := fun v w' hb => hK0 v w' (.inl hb)
              clear hx hKc hK0
              simp only [frameOf, fill, setSlot, List.contains_cons, List.contains_nil, Nat.reduceBEq, Bool.or_false, Bool.false_or, Bool.or_true, Bool.true_or, if_true, if_false, Bool.false_eq_true, Nat.reduceAdd, Nat.reduceEqDiff, List.getD_cons_zero, List.getD_cons_succ, Nat.zero_add, show slotsOf [some 56, some 57, some 58, some 59, some 60, some 61, some 62, some 63, some 64, some 65, some 66, some 67, some 68, some 69, some 70, some 71, some 72, some 73, some 74, some 75, some 76, none, some 13, some 14, some 10] = [56, 57, 58, 59, 60, 61, 62, 63, 64, 65, 66, 67, 68, 69, 70, 71, 72, 73, 74, 75, 76, 13, 14, 10] from rfl] at hK ⊢
              go_wp2_with (fail)
              exact hK _ _ (Below.refl _ _) rfl
          · intro xq wd hbd hx
            have e56 : xq 56 = .pointer (some ⟨wc.heap.size + 1 + 1, 2, none⟩) := hx 0 (by decide)
            have e57 : xq 57 = .pointer (some ⟨wc.heap.size + 1 + 1, 2, none⟩) := hx 1 (by decide)
            have e58 : xq 58 = .int .i64 (l : Int) := hx 2 (by decide)
            have e59 : xq 59 = .pointer (some ⟨w.heap.size, 2, none⟩) := hx 3 (by decide)
            have e60 : xq 60 = .pointer (some ⟨w.heap.size, 2 + l, none⟩) := hx 4 (by decide)
            have e61 : xq 61 = .int .i64 r0 := hx 5 (by decide)
            have e62 : xq 62 = .pointer (some ⟨wc.heap.size + 1 + 1, 2, none⟩) := hx 6 (by decide)
            have e63 : xq 63 = .pointer (some ⟨wc.heap.size + 1 + 1, 3, none⟩) := hx 7 (by decide)
            have e64 : xq 64 = .int .i64 (m : Int) := hx 8 (by decide)
            have e65 : xq 65 = .pointer (some ⟨w.heap.size, 2, none⟩) := hx 9 (by decide)
            have e66 : xq 66 = .pointer (some ⟨w.heap.size, 2 + m, none⟩) := hx 10 (by decide)
            have e67 : xq 67 = .int .i64 r1 := hx 11 (by decide)
            have e68 : xq 68 = .agg #[.int .i64 r0, .int .i64 r1] := hx 12 (by decide)
            have e69 : xq 69 = .agg #[.int .i64 b.cool, .int .i64 b.gangs, .int .i64 b.r0, .int .i64 b.r1, .int .i64 b.r2, .int .i64 b.r3, .int .i64 b.r4, .int .i64 b.r5, .slice A2n7 bs.length c2n7] := hx 13 (by decide)
            have e70 : xq 70 = .int .i64 (k : Int) := hx 14 (by decide)
            have e71 : xq 71 = .pointer (some ⟨wc.heap.size + 1 + 1, 0, none⟩) := hx 15 (by decide)
            have e72 : xq 72 = .int .i64 x.warm := hx 16 (by decide)
            have e73 : xq 73 = .int .i64 D1 := hx 17 (by decide)
            have e74 : xq 74 = .agg #[.int .i64 b.cool, .int .i64 b.gangs, .int .i64 b.r0, .int .i64 b.r1, .int .i64 b.r2, .int .i64 b.r3, .int .i64 b.r4, .int .i64 b.r5, .slice A2n7 bs.length c2n7] := hx 18 (by decide)
            have e75 : xq 75 = .int .i64 (k : Int) := hx 19 (by decide)
            have e76 : xq 76 = .int .i64 D2 := hx 20 (by decide)
            have fn21_0 : Holds wd (wc.heap.size) 27 #[.int .i64 r0, .int .i64 r1] := hx 21 (by decide)
            have e13 : xq 13 = .int .i64 D1 := hx 22 (by decide)
            have e14 : xq 14 = .int .i64 D2 := hx 23 (by decide)
            have e10 : xq 10 = .int .i64 0 := hx 24 (by decide)
            clear hx
            simp only [frameOf, fill, setSlot, List.contains_cons, List.contains_nil, Nat.reduceBEq, Bool.or_false, Bool.false_or, Bool.or_true, Bool.true_or, if_true, if_false, Bool.false_eq_true, Nat.reduceAdd, Nat.reduceEqDiff, List.getD_cons_zero, List.getD_cons_succ, Nat.zero_add, show slotsOf [some 56, some 57, some 58, some 59, some 60, some 61, some 62, some 63, some 64, some 65, some 66, some 67, some 68, some 69, some 70, some 71, some 72, some 73, some 74, some 75, some 76, none, some 13, some 14, some 10] = [56, 57, 58, 59, 60, 61, 62, 63, 64, 65, 66, 67, 68, 69, 70, 71, 72, 73, 74, 75, 76, 13, 14, 10] from rfl]
            simp only [e56, e57, e58, e59, e60, e61, e62, e63, e64, e65, e66, e67, e68, e69, e70, e71, e72, e73, e74, e75, e76, e13, e14, e10]
            clear e56 e57 e58 e59 e60 e61 e62 e63 e64 e65 e66 e67 e68 e69 e70 e71 e72 e73 e74 e75 e76 e13 e14 e10
            refine hKc _ _ ?_
            have HSd := Lib.hid hbd.1
            have HBd := Lib.hid (HBc.out.trans (hbd.1.mono hsc))
            have hsd := HBd.out.size
            have hstd := hbd.1.size
            have hszd := hbd.2.1
            have Hbd := Lib.hid (Hbc.out.up hbd.1)
            have Hdd := Lib.hid (Hdc.out.up hbd.1)
            have Hod := Lib.hid (Hoc.out.up hbd.1)
            have Hxd := Lib.hid (Hxc.out.up hbd.1)
            have HAd := Lib.hid (HAc.out.up hbd.1)
            have HPd := Lib.hid (HPc.out.up hbd.1)
            have HMd := Lib.hid (HMc.out.up hbd.1)
            have Hyd := Lib.hid hbd.2.2.1
            have Hzd := Lib.hid hbd.2.2.2
            have Hsd := Lib.hid fn21_0
            clear hbd fn21_0 ke0 ke1 ke2 ke3
            clear kb0 kb1 kb2 kb3 kb4 kb5 kb6 kb7 kb8 lt_b kd0 kd1 lt_d ko0 ko1 ko2 ko3 ko4 ko5 ko6 ko7 ko8 lt_o kx0 kx1 kx2 kx3 kx4 kx5 kx6 kx7 kx8 lt_x
            have ko0 : wd.cell? ⟨zn6, 0, none⟩ = some (.int .i64 b.cool) := Hod.out.cell 0
            have ko1 : wd.cell? ⟨zn6, 1, none⟩ = some (.int .i64 b.gangs) := Hod.out.cell 1
            have ko2 : wd.cell? ⟨zn6, 2, none⟩ = some (.int .i64 b.r0) := Hod.out.cell 2
            have ko3 : wd.cell? ⟨zn6, 3, none⟩ = some (.int .i64 b.r1) := Hod.out.cell 3
            have ko4 : wd.cell? ⟨zn6, 4, none⟩ = some (.int .i64 b.r2) := Hod.out.cell 4
            have ko5 : wd.cell? ⟨zn6, 5, none⟩ = some (.int .i64 b.r3) := Hod.out.cell 5
            have ko6 : wd.cell? ⟨zn6, 6, none⟩ = some (.int .i64 b.r4) := Hod.out.cell 6
            have ko7 : wd.cell? ⟨zn6, 7, none⟩ = some (.int .i64 b.r5) := Hod.out.cell 7
            have ko8 : wd.cell? ⟨zn6, 8, none⟩ = some (.slice A1n6 bs.length c1n6) := Hod.out.cell 8
            have lt_o : zn6 < wd.heap.size := Hod.out.lt
            have kd0 : wd.cell? ⟨w.heap.size + 1, 0, none⟩ = some (.int .i64 lo) := Hdd.out.cell 0
            have kd1 : wd.cell? ⟨w.heap.size + 1, 1, none⟩ = some (.int .i64 hi) := Hdd.out.cell 1
            have lt_d : w.heap.size + 1 < wd.heap.size := Hdd.out.lt
            have ky0 : wd.cell? ⟨wc.heap.size + 1 + 1, 0, none⟩ = some (.int .i64 x.warm) := Hyd.out.cell 0
            have ky1 : wd.cell? ⟨wc.heap.size + 1 + 1, 1, none⟩ = some (.int .i64 x.mark) := Hyd.out.cell 1
            have ky2 : wd.cell? ⟨wc.heap.size + 1 + 1, 2, none⟩ = some (.int .i64 (l : Int)) := Hyd.out.cell 2
            have ky3 : wd.cell? ⟨wc.heap.size + 1 + 1, 3, none⟩ = some (.int .i64 (m : Int)) := Hyd.out.cell 3
            have lt_y : wc.heap.size + 1 + 1 < wd.heap.size := Hyd.out.lt
            cases hC : (within lo 0 5 && within hi 0 5) with
            | false =>
              have HC := Lib.hid hC
              have h4 : lo < 0 ∨ (0 ≤ lo ∧ hi < 0) ∨ (0 ≤ lo ∧ 0 ≤ hi ∧ 5 < lo) ∨ (0 ≤ lo ∧ 0 ≤ hi ∧ lo ≤ 5 ∧ 5 < hi) := by simp only [within, Bool.and_eq_false_iff, decide_eq_false_iff_not] at hC; omega
              clear hC
              rcases h4 with q1 | ⟨q1, q2⟩ | ⟨q1, q2, q3⟩ | ⟨q1, q2, q3, q4⟩
              all_goals
                as_aux_lemma =>
                  go_wp2_with fail
                  refine (Rises_ok b A1n6 c1n6 bs _ (HPd.out.up (zg)) h8' HG.out k x HX.out).mono ?_
                  rw [HR0.out, HR1.out]
                  rintro e we ⟨rfl, hbe⟩
                  have Hbe := Lib.hid (Holds.up (by have h := Hbd.out; exact zp : Holds _ (w.heap.size) 25 #[.int .i64 b.cool, .int .i64 b.gangs, .int .i64 b.r0, .int .i64 b.r1, .int .i64 b.r2, .int .i64 b.r3, .int .i64 b.r4, .int .i64 b.r5, .slice (some ⟨E0, oo, none⟩) bs.length c]) hbe)
                  have Hde := Lib.hid (Holds.up (by have h := Hdd.out; exact zp : Holds _ (w.heap.size + 1) 27 #[.int .i64 lo, .int .i64 hi]) hbe)
                  have Hoe := Lib.hid (Holds.up (by have h := Hod.out; exact zp : Holds _ (zn6) 25 #[.int .i64 b.cool, .int .i64 b.gangs, .int .i64 b.r0, .int .i64 b.r1, .int .i64 b.r2, .int .i64 b.r3, .int .i64 b.r4, .int .i64 b.r5, .slice A1n6 bs.length c1n6]) hbe)
                  have Hxe := Lib.hid (Holds.up (by have h := Hxd.out; exact zp : Holds _ (zn7) 33 #[.int .i64 b.cool, .int .i64 b.gangs, .int .i64 b.r0, .int .i64 b.r1, .int .i64 b.r2, .int .i64 b.r3, .int .i64 b.r4, .int .i64 b.r5, .slice A2n7 bs.length c2n7]) hbe)
                  have Hse := Lib.hid (Holds.up (by have h := Hsd.out; exact zp : Holds _ (wc.heap.size) 27 #[.int .i64 r0, .int .i64 r1]) hbe)
                  have Hye := Lib.hid (Holds.up (by have h := Hyd.out; exact zp : Holds _ (wc.heap.size + 1 + 1) 39 #[.int .i64 x.warm, .int .i64 x.mark, .int .i64 (l : Int), .int .i64 (m : Int)]) hbe)
                  have Hze := Lib.hid (Holds.up (by have h := Hzd.out; exact zp : Holds _ (wc.heap.size + 1) 25 #[.int .i64 0, .int .i64 0, .int .i64 0, .int .i64 0, .int .i64 0, .int .i64 0, .int .i64 0, .int .i64 0, .slice none 0 0]) hbe)
                  have HSe : Hid (Below wd.heap.size wd we) := Lib.hid (Below.trans (zg) (hbe.mono (by first | exact Nat.le_refl _ | omega | (simp; done) | (simp; omega))))
                  have HBe : Hid (Below w.heap.size w we) := Lib.hid (HBd.out.trans (HSe.out.mono hsd))
                  have hse := HBe.out.size
                  have hste := HSe.out.size
                  have HAe := Lib.hid (HAd.out.up HSe.out)
                  have HPe := Lib.hid (HPd.out.up HSe.out)
                  have HMe := Lib.hid (HMd.out.up HSe.out)
                  clear hbe
                  clear ko0 ko1 ko2 ko3 ko4 ko5 ko6 ko7 ko8 lt_o kd0 kd1 lt_d ky0 ky1 ky2 ky3 lt_y
                  have ko0 : we.cell? ⟨zn6, 0, none⟩ = some (.int .i64 b.cool) := Hoe.out.cell 0
                  have ko1 : we.cell? ⟨zn6, 1, none⟩ = some (.int .i64 b.gangs) := Hoe.out.cell 1
                  have ko2 : we.cell? ⟨zn6, 2, none⟩ = some (.int .i64 b.r0) := Hoe.out.cell 2
                  have ko3 : we.cell? ⟨zn6, 3, none⟩ = some (.int .i64 b.r1) := Hoe.out.cell 3
                  have ko4 : we.cell? ⟨zn6, 4, none⟩ = some (.int .i64 b.r2) := Hoe.out.cell 4
                  have ko5 : we.cell? ⟨zn6, 5, none⟩ = some (.int .i64 b.r3) := Hoe.out.cell 5
                  have ko6 : we.cell? ⟨zn6, 6, none⟩ = some (.int .i64 b.r4) := Hoe.out.cell 6
                  have ko7 : we.cell? ⟨zn6, 7, none⟩ = some (.int .i64 b.r5) := Hoe.out.cell 7
                  have ko8 : we.cell? ⟨zn6, 8, none⟩ = some (.slice A1n6 bs.length c1n6) := Hoe.out.cell 8
                  have lt_o : zn6 < we.heap.size := Hoe.out.lt
                  go_wp2_with fail
                  refine (Left_ok b A1n6 c1n6 bs _ (HPe.out.up (zg)) h8' HG.out k x HX.out).mono ?_
                  rw [HD1.out]
                  rintro e wf ⟨rfl, hbf⟩
                  have Hbf := Lib.hid (Holds.up (by have h := Hbe.out; exact zp : Holds _ (w.heap.size) 25 #[.int .i64 b.cool, .int .i64 b.gangs, .int .i64 b.r0, .int .i64 b.r1, .int .i64 b.r2, .int .i64 b.r3, .int .i64 b.r4, .int .i64 b.r5, .slice (some ⟨E0, oo, none⟩) bs.length c]) hbf)
                  have Hdf := Lib.hid (Holds.up (by have h := Hde.out; exact zp : Holds _ (w.heap.size + 1) 27 #[.int .i64 lo, .int .i64 hi]) hbf)
                  have Hof := Lib.hid (Holds.up (by have h := Hoe.out; exact zp : Holds _ (zn6) 25 #[.int .i64 b.cool, .int .i64 b.gangs, .int .i64 b.r0, .int .i64 b.r1, .int .i64 b.r2, .int .i64 b.r3, .int .i64 b.r4, .int .i64 b.r5, .slice A1n6 bs.length c1n6]) hbf)
                  have Hxf := Lib.hid (Holds.up (by have h := Hxe.out; exact zp : Holds _ (zn7) 33 #[.int .i64 b.cool, .int .i64 b.gangs, .int .i64 b.r0, .int .i64 b.r1, .int .i64 b.r2, .int .i64 b.r3, .int .i64 b.r4, .int .i64 b.r5, .slice A2n7 bs.length c2n7]) hbf)
                  have Hsf := Lib.hid (Holds.up (by have h := Hse.out; exact zp : Holds _ (wc.heap.size) 27 #[.int .i64 r0, .int .i64 r1]) hbf)
                  have Hyf := Lib.hid (Holds.up (by have h := Hye.out; exact zp : Holds _ (wc.heap.size + 1 + 1) 39 #[.int .i64 x.warm, .int .i64 x.mark, .int .i64 (l : Int), .int .i64 (m : Int)]) hbf)
                  have Hzf := Lib.hid (Holds.up (by have h := Hze.out; exact zp : Holds _ (wc.heap.size + 1) 25 #[.int .i64 0, .int .i64 0, .int .i64 0, .int .i64 0, .int .i64 0, .int .i64 0, .int .i64 0, .int .i64 0, .slice none 0 0]) hbf)
                  have Htf := Lib.hid (Holds.up (zp : Holds _ (we.heap.size) 27 #[.int .i64 r0, .int .i64 r1]) hbf)
                  have HSf : Hid (Below we.heap.size we wf) := Lib.hid (Below.trans (zg) (hbf.mono (by first | exact Nat.le_refl _ | omega | (simp; done) | (simp; omega))))
                  have HBf : Hid (Below w.heap.size w wf) := Lib.hid (HBe.out.trans (HSf.out.mono hse))
                  have hsf := HBf.out.size
                  have hstf := HSf.out.size
                  have HAf := Lib.hid (HAe.out.up HSf.out)
                  have HPf := Lib.hid (HPe.out.up HSf.out)
                  have HMf := Lib.hid (HMe.out.up HSf.out)
                  clear hbf
                  clear ko0 ko1 ko2 ko3 ko4 ko5 ko6 ko7 ko8 lt_o
                  have ko0 : wf.cell? ⟨zn6, 0, none⟩ = some (.int .i64 b.cool) := Hof.out.cell 0
                  have ko1 : wf.cell? ⟨zn6, 1, none⟩ = some (.int .i64 b.gangs) := Hof.out.cell 1
                  have ko2 : wf.cell? ⟨zn6, 2, none⟩ = some (.int .i64 b.r0) := Hof.out.cell 2
                  have ko3 : wf.cell? ⟨zn6, 3, none⟩ = some (.int .i64 b.r1) := Hof.out.cell 3
                  have ko4 : wf.cell? ⟨zn6, 4, none⟩ = some (.int .i64 b.r2) := Hof.out.cell 4
                  have ko5 : wf.cell? ⟨zn6, 5, none⟩ = some (.int .i64 b.r3) := Hof.out.cell 5
                  have ko6 : wf.cell? ⟨zn6, 6, none⟩ = some (.int .i64 b.r4) := Hof.out.cell 6
                  have ko7 : wf.cell? ⟨zn6, 7, none⟩ = some (.int .i64 b.r5) := Hof.out.cell 7
                  have ko8 : wf.cell? ⟨zn6, 8, none⟩ = some (.slice A1n6 bs.length c1n6) := Hof.out.cell 8
                  have lt_o : zn6 < wf.heap.size := Hof.out.lt
                  go_wp2_with fail
                  refine (Lasts_ok b A1n6 c1n6 bs _ (HPf.out.up (zg)) h8' HG.out k x HX.out).mono ?_
                  rw [HD2.out]
                  rintro e wg ⟨rfl, hbg⟩
                  have Hbg := Lib.hid (Holds.up (by have h := Hbf.out; exact zp : Holds _ (w.heap.size) 25 #[.int .i64 b.cool, .int .i64 b.gangs, .int .i64 b.r0, .int .i64 b.r1, .int .i64 b.r2, .int .i64 b.r3, .int .i64 b.r4, .int .i64 b.r5, .slice (some ⟨E0, oo, none⟩) bs.length c]) hbg)
                  have Hdg := Lib.hid (Holds.up (by have h := Hdf.out; exact zp : Holds _ (w.heap.size + 1) 27 #[.int .i64 lo, .int .i64 hi]) hbg)
                  have Hog := Lib.hid (Holds.up (by have h := Hof.out; exact zp : Holds _ (zn6) 25 #[.int .i64 b.cool, .int .i64 b.gangs, .int .i64 b.r0, .int .i64 b.r1, .int .i64 b.r2, .int .i64 b.r3, .int .i64 b.r4, .int .i64 b.r5, .slice A1n6 bs.length c1n6]) hbg)
                  have Hxg := Lib.hid (Holds.up (by have h := Hxf.out; exact zp : Holds _ (zn7) 33 #[.int .i64 b.cool, .int .i64 b.gangs, .int .i64 b.r0, .int .i64 b.r1, .int .i64 b.r2, .int .i64 b.r3, .int .i64 b.r4, .int .i64 b.r5, .slice A2n7 bs.length c2n7]) hbg)
                  have Hsg := Lib.hid (Holds.up (by have h := Hsf.out; exact zp : Holds _ (wc.heap.size) 27 #[.int .i64 r0, .int .i64 r1]) hbg)
                  have Hyg := Lib.hid (Holds.up (by have h := Hyf.out; exact zp : Holds _ (wc.heap.size + 1 + 1) 39 #[.int .i64 x.warm, .int .i64 x.mark, .int .i64 (l : Int), .int .i64 (m : Int)]) hbg)
                  have Hzg := Lib.hid (Holds.up (by have h := Hzf.out; exact zp : Holds _ (wc.heap.size + 1) 25 #[.int .i64 0, .int .i64 0, .int .i64 0, .int .i64 0, .int .i64 0, .int .i64 0, .int .i64 0, .int .i64 0, .slice none 0 0]) hbg)
                  have Htg := Lib.hid (Holds.up (by have h := Htf.out; exact zp : Holds _ (we.heap.size) 27 #[.int .i64 r0, .int .i64 r1]) hbg)
                  have HSg : Hid (Below wf.heap.size wf wg) := Lib.hid (Below.trans (zg) (hbg.mono (by first | exact Nat.le_refl _ | omega | (simp; done) | (simp; omega))))
                  have HBg : Hid (Below w.heap.size w wg) := Lib.hid (HBf.out.trans (HSg.out.mono hsf))
                  have hsg := HBg.out.size
                  have hstg := HSg.out.size
                  have HAg := Lib.hid (HAf.out.up HSg.out)
                  have HPg := Lib.hid (HPf.out.up HSg.out)
                  have HMg := Lib.hid (HMf.out.up HSg.out)
                  clear hbg
                  clear ko0 ko1 ko2 ko3 ko4 ko5 ko6 ko7 ko8 lt_o
                  have ko0 : wg.cell? ⟨zn6, 0, none⟩ = some (.int .i64 b.cool) := Hog.out.cell 0
                  have ko1 : wg.cell? ⟨zn6, 1, none⟩ = some (.int .i64 b.gangs) := Hog.out.cell 1
                  have ko2 : wg.cell? ⟨zn6, 2, none⟩ = some (.int .i64 b.r0) := Hog.out.cell 2
                  have ko3 : wg.cell? ⟨zn6, 3, none⟩ = some (.int .i64 b.r1) := Hog.out.cell 3
                  have ko4 : wg.cell? ⟨zn6, 4, none⟩ = some (.int .i64 b.r2) := Hog.out.cell 4
                  have ko5 : wg.cell? ⟨zn6, 5, none⟩ = some (.int .i64 b.r3) := Hog.out.cell 5
                  have ko6 : wg.cell? ⟨zn6, 6, none⟩ = some (.int .i64 b.r4) := Hog.out.cell 6
                  have ko7 : wg.cell? ⟨zn6, 7, none⟩ = some (.int .i64 b.r5) := Hog.out.cell 7
                  have ko8 : wg.cell? ⟨zn6, 8, none⟩ = some (.slice A1n6 bs.length c1n6) := Hog.out.cell 8
                  have lt_o : zn6 < wg.heap.size := Hog.out.lt
                  have kd0 : wg.cell? ⟨w.heap.size + 1, 0, none⟩ = some (.int .i64 lo) := Hdg.out.cell 0
                  have kd1 : wg.cell? ⟨w.heap.size + 1, 1, none⟩ = some (.int .i64 hi) := Hdg.out.cell 1
                  have lt_d : w.heap.size + 1 < wg.heap.size := Hdg.out.lt
                  go_wp2_with fail
                  refine (Sample_range b A1n6 c1n6 bs _ (HPg.out.up (zg)) h8' lo hi HG.out k x HX.out HC.out).mono ?_
                  rintro e wh ⟨rfl, hbh⟩
                  have Hbh := Lib.hid (Holds.up (by have h := Hbg.out; exact zp : Holds _ (w.heap.size) 25 #[.int .i64 b.cool, .int .i64 b.gangs, .int .i64 b.r0, .int .i64 b.r1, .int .i64 b.r2, .int .i64 b.r3, .int .i64 b.r4, .int .i64 b.r5, .slice (some ⟨E0, oo, none⟩) bs.length c]) hbh)
                  have Hdh := Lib.hid (Holds.up (by have h := Hdg.out; exact zp : Holds _ (w.heap.size + 1) 27 #[.int .i64 lo, .int .i64 hi]) hbh)
                  have Hoh := Lib.hid (Holds.up (by have h := Hog.out; exact zp : Holds _ (zn6) 25 #[.int .i64 b.cool, .int .i64 b.gangs, .int .i64 b.r0, .int .i64 b.r1, .int .i64 b.r2, .int .i64 b.r3, .int .i64 b.r4, .int .i64 b.r5, .slice A1n6 bs.length c1n6]) hbh)
                  have Hxh := Lib.hid (Holds.up (by have h := Hxg.out; exact zp : Holds _ (zn7) 33 #[.int .i64 b.cool, .int .i64 b.gangs, .int .i64 b.r0, .int .i64 b.r1, .int .i64 b.r2, .int .i64 b.r3, .int .i64 b.r4, .int .i64 b.r5, .slice A2n7 bs.length c2n7]) hbh)
                  have Hsh := Lib.hid (Holds.up (by have h := Hsg.out; exact zp : Holds _ (wc.heap.size) 27 #[.int .i64 r0, .int .i64 r1]) hbh)
                  have Hyh := Lib.hid (Holds.up (by have h := Hyg.out; exact zp : Holds _ (wc.heap.size + 1 + 1) 39 #[.int .i64 x.warm, .int .i64 x.mark, .int .i64 (l : Int), .int .i64 (m : Int)]) hbh)
                  have Hzh := Lib.hid (Holds.up (by have h := Hzg.out; exact zp : Holds _ (wc.heap.size + 1) 25 #[.int .i64 0, .int .i64 0, .int .i64 0, .int .i64 0, .int .i64 0, .int .i64 0, .int .i64 0, .int .i64 0, .slice none 0 0]) hbh)
                  have Hth := Lib.hid (Holds.up (by have h := Htg.out; exact zp : Holds _ (we.heap.size) 27 #[.int .i64 r0, .int .i64 r1]) hbh)
                  have HSh : Hid (Below wg.heap.size wg wh) := Lib.hid (Below.trans (zg) (hbh.mono (by first | exact Nat.le_refl _ | omega | (simp; done) | (simp; omega))))
                  have HBh : Hid (Below w.heap.size w wh) := Lib.hid (HBg.out.trans (HSh.out.mono hsg))
                  have hsh := HBh.out.size
                  have hsth := HSh.out.size
                  have HAh := Lib.hid (HAg.out.up HSh.out)
                  have HPh := Lib.hid (HPg.out.up HSh.out)
                  have HMh := Lib.hid (HMg.out.up HSh.out)
                  clear hbh
                  clear ko0 ko1 ko2 ko3 ko4 ko5 ko6 ko7 ko8 lt_o kd0 kd1 lt_d
                  have kt0 : wh.cell? ⟨we.heap.size, 0, none⟩ = some (.int .i64 r0) := Hth.out.cell 0
                  have kt1 : wh.cell? ⟨we.heap.size, 1, none⟩ = some (.int .i64 r1) := Hth.out.cell 1
                  have lt_t : we.heap.size < wh.heap.size := Hth.out.lt
                  have ks0 : wh.cell? ⟨wc.heap.size, 0, none⟩ = some (.int .i64 r0) := Hsh.out.cell 0
                  have ks1 : wh.cell? ⟨wc.heap.size, 1, none⟩ = some (.int .i64 r1) := Hsh.out.cell 1
                  have lt_s : wc.heap.size < wh.heap.size := Hsh.out.lt
                  have kz0 : wh.cell? ⟨wc.heap.size + 1, 0, none⟩ = some (.int .i64 0) := Hzh.out.cell 0
                  have kz1 : wh.cell? ⟨wc.heap.size + 1, 1, none⟩ = some (.int .i64 0) := Hzh.out.cell 1
                  have kz2 : wh.cell? ⟨wc.heap.size + 1, 2, none⟩ = some (.int .i64 0) := Hzh.out.cell 2
                  have kz3 : wh.cell? ⟨wc.heap.size + 1, 3, none⟩ = some (.int .i64 0) := Hzh.out.cell 3
                  have kz4 : wh.cell? ⟨wc.heap.size + 1, 4, none⟩ = some (.int .i64 0) := Hzh.out.cell 4
                  have kz5 : wh.cell? ⟨wc.heap.size + 1, 5, none⟩ = some (.int .i64 0) := Hzh.out.cell 5
                  have kz6 : wh.cell? ⟨wc.heap.size + 1, 6, none⟩ = some (.int .i64 0) := Hzh.out.cell 6
                  have kz7 : wh.cell? ⟨wc.heap.size + 1, 7, none⟩ = some (.int .i64 0) := Hzh.out.cell 7
                  have kz8 : wh.cell? ⟨wc.heap.size + 1, 8, none⟩ = some (.slice none 0 0) := Hzh.out.cell 8
                  have lt_z : wc.heap.size + 1 < wh.heap.size := Hzh.out.lt
                  have hneq := neq_span r0 r1
                  go_wp2_with fail
                  refine (same_same ⟨0, 0, 0, 0, 0, 0, 0, 0⟩ none none 0 0 [] _ (RowAt.nil _ _ _ _) (RowAt.nil _ _ _ _) (by decide)).mono ?_
                  rintro e wi ⟨rfl, hbi⟩
                  have Hbi := Lib.hid (Holds.up (by have h := Hbh.out; exact zp : Holds _ (w.heap.size) 25 #[.int .i64 b.cool, .int .i64 b.gangs, .int .i64 b.r0, .int .i64 b.r1, .int .i64 b.r2, .int .i64 b.r3, .int .i64 b.r4, .int .i64 b.r5, .slice (some ⟨E0, oo, none⟩) bs.length c]) hbi)
                  have Hdi := Lib.hid (Holds.up (by have h := Hdh.out; exact zp : Holds _ (w.heap.size + 1) 27 #[.int .i64 lo, .int .i64 hi]) hbi)
                  have Hoi := Lib.hid (Holds.up (by have h := Hoh.out; exact zp : Holds _ (zn6) 25 #[.int .i64 b.cool, .int .i64 b.gangs, .int .i64 b.r0, .int .i64 b.r1, .int .i64 b.r2, .int .i64 b.r3, .int .i64 b.r4, .int .i64 b.r5, .slice A1n6 bs.length c1n6]) hbi)
                  have Hxi := Lib.hid (Holds.up (by have h := Hxh.out; exact zp : Holds _ (zn7) 33 #[.int .i64 b.cool, .int .i64 b.gangs, .int .i64 b.r0, .int .i64 b.r1, .int .i64 b.r2, .int .i64 b.r3, .int .i64 b.r4, .int .i64 b.r5, .slice A2n7 bs.length c2n7]) hbi)
                  have Hsi := Lib.hid (Holds.up (by have h := Hsh.out; exact zp : Holds _ (wc.heap.size) 27 #[.int .i64 r0, .int .i64 r1]) hbi)
                  have Hyi := Lib.hid (Holds.up (by have h := Hyh.out; exact zp : Holds _ (wc.heap.size + 1 + 1) 39 #[.int .i64 x.warm, .int .i64 x.mark, .int .i64 (l : Int), .int .i64 (m : Int)]) hbi)
                  have Hzi := Lib.hid (Holds.up (by have h := Hzh.out; exact zp : Holds _ (wc.heap.size + 1) 25 #[.int .i64 0, .int .i64 0, .int .i64 0, .int .i64 0, .int .i64 0, .int .i64 0, .int .i64 0, .int .i64 0, .slice none 0 0]) hbi)
                  have Hti := Lib.hid (Holds.up (by have h := Hth.out; exact zp : Holds _ (we.heap.size) 27 #[.int .i64 r0, .int .i64 r1]) hbi)
                  have Hci := Lib.hid (Holds.up (zp : Holds _ (wh.heap.size) 25 #[.int .i64 0, .int .i64 0, .int .i64 0, .int .i64 0, .int .i64 0, .int .i64 0, .int .i64 0, .int .i64 0, .slice none 0 0]) hbi)
                  have HSi : Hid (Below wh.heap.size wh wi) := Lib.hid (Below.trans (zg) (hbi.mono (by first | exact Nat.le_refl _ | omega | (simp; done) | (simp; omega))))
                  have HBi : Hid (Below w.heap.size w wi) := Lib.hid (HBh.out.trans (HSi.out.mono hsh))
                  have hsi := HBi.out.size
                  have hsti := HSi.out.size
                  have HAi := Lib.hid (HAh.out.up HSi.out)
                  have HPi := Lib.hid (HPh.out.up HSi.out)
                  have HMi := Lib.hid (HMh.out.up HSi.out)
                  clear hbi
                  clear kt0 kt1 lt_t ks0 ks1 lt_s kz0 kz1 kz2 kz3 kz4 kz5 kz6 kz7 kz8 lt_z
                  have kc0 : wi.cell? ⟨wh.heap.size, 0, none⟩ = some (.int .i64 0) := Hci.out.cell 0
                  have kc1 : wi.cell? ⟨wh.heap.size, 1, none⟩ = some (.int .i64 0) := Hci.out.cell 1
                  have kc2 : wi.cell? ⟨wh.heap.size, 2, none⟩ = some (.int .i64 0) := Hci.out.cell 2
                  have kc3 : wi.cell? ⟨wh.heap.size, 3, none⟩ = some (.int .i64 0) := Hci.out.cell 3
                  have kc4 : wi.cell? ⟨wh.heap.size, 4, none⟩ = some (.int .i64 0) := Hci.out.cell 4
                  have kc5 : wi.cell? ⟨wh.heap.size, 5, none⟩ = some (.int .i64 0) := Hci.out.cell 5
                  have kc6 : wi.cell? ⟨wh.heap.size, 6, none⟩ = some (.int .i64 0) := Hci.out.cell 6
                  have kc7 : wi.cell? ⟨wh.heap.size, 7, none⟩ = some (.int .i64 0) := Hci.out.cell 7
                  have kc8 : wi.cell? ⟨wh.heap.size, 8, none⟩ = some (.slice none 0 0) := Hci.out.cell 8
                  have lt_c : wh.heap.size < wi.heap.size := Hci.out.lt
                  have hclr := run_clear_nil wi 0
                  have kb0 : wi.cell? ⟨w.heap.size, 0, none⟩ = some (.int .i64 b.cool) := Hbi.out.cell 0
                  have kb1 : wi.cell? ⟨w.heap.size, 1, none⟩ = some (.int .i64 b.gangs) := Hbi.out.cell 1
                  have kb2 : wi.cell? ⟨w.heap.size, 2, none⟩ = some (.int .i64 b.r0) := Hbi.out.cell 2
                  have kb3 : wi.cell? ⟨w.heap.size, 3, none⟩ = some (.int .i64 b.r1) := Hbi.out.cell 3
                  have kb4 : wi.cell? ⟨w.heap.size, 4, none⟩ = some (.int .i64 b.r2) := Hbi.out.cell 4
                  have kb5 : wi.cell? ⟨w.heap.size, 5, none⟩ = some (.int .i64 b.r3) := Hbi.out.cell 5
                  have kb6 : wi.cell? ⟨w.heap.size, 6, none⟩ = some (.int .i64 b.r4) := Hbi.out.cell 6
                  have kb7 : wi.cell? ⟨w.heap.size, 7, none⟩ = some (.int .i64 b.r5) := Hbi.out.cell 7
                  have kb8 : wi.cell? ⟨w.heap.size, 8, none⟩ = some (.slice (some ⟨E0, oo, none⟩) bs.length c) := Hbi.out.cell 8
                  have lt_b : w.heap.size < wi.heap.size := Hbi.out.lt
                  have ko0 : wi.cell? ⟨zn6, 0, none⟩ = some (.int .i64 b.cool) := Hoi.out.cell 0
                  have ko1 : wi.cell? ⟨zn6, 1, none⟩ = some (.int .i64 b.gangs) := Hoi.out.cell 1
                  have ko2 : wi.cell? ⟨zn6, 2, none⟩ = some (.int .i64 b.r0) := Hoi.out.cell 2
                  have ko3 : wi.cell? ⟨zn6, 3, none⟩ = some (.int .i64 b.r1) := Hoi.out.cell 3
                  have ko4 : wi.cell? ⟨zn6, 4, none⟩ = some (.int .i64 b.r2) := Hoi.out.cell 4
                  have ko5 : wi.cell? ⟨zn6, 5, none⟩ = some (.int .i64 b.r3) := Hoi.out.cell 5
                  have ko6 : wi.cell? ⟨zn6, 6, none⟩ = some (.int .i64 b.r4) := Hoi.out.cell 6
                  have ko7 : wi.cell? ⟨zn6, 7, none⟩ = some (.int .i64 b.r5) := Hoi.out.cell 7
                  have ko8 : wi.cell? ⟨zn6, 8, none⟩ = some (.slice A1n6 bs.length c1n6) := Hoi.out.cell 8
                  have lt_o : zn6 < wi.heap.size := Hoi.out.lt
                  go_wp2_with (at_builtin; go_loud (refine wpList_clear_run _ rfl _ _ rfl _ rfl hclr ?_))
                  refine (same_same b A1n6 (some ⟨E0, oo, none⟩) c1n6 c bs _ (HPi.out.up (zg)) (HAi.out.up (zg)) h8').mono ?_
                  rintro e wj ⟨rfl, hbj⟩
                  have Hbj := Lib.hid (Holds.up (by have h := Hbi.out; exact zp : Holds _ (w.heap.size) 25 #[.int .i64 b.cool, .int .i64 b.gangs, .int .i64 b.r0, .int .i64 b.r1, .int .i64 b.r2, .int .i64 b.r3, .int .i64 b.r4, .int .i64 b.r5, .slice (some ⟨E0, oo, none⟩) bs.length c]) hbj)
                  have Hoj := Lib.hid (Holds.up (by have h := Hoi.out; exact zp : Holds _ (zn6) 25 #[.int .i64 b.cool, .int .i64 b.gangs, .int .i64 b.r0, .int .i64 b.r1, .int .i64 b.r2, .int .i64 b.r3, .int .i64 b.r4, .int .i64 b.r5, .slice A1n6 bs.length c1n6]) hbj)
                  have HSj : Hid (Below wi.heap.size wi wj) := Lib.hid (Below.trans (zg) (hbj.mono (by first | exact Nat.le_refl _ | omega | (simp; done) | (simp; omega))))
                  have HBj : Hid (Below w.heap.size w wj) := Lib.hid (HBi.out.trans (HSj.out.mono hsi))
                  have hsj := HBj.out.size
                  have hstj := HSj.out.size
                  have HAj := Lib.hid (HAi.out.up HSj.out)
                  have HPj := Lib.hid (HPi.out.up HSj.out)
                  clear hbj
                  clear kb0 kb1 kb2 kb3 kb4 kb5 kb6 kb7 kb8 lt_b ko0 ko1 ko2 ko3 ko4 ko5 ko6 ko7 ko8 lt_o
                  go_wp2_with fail
                  refine (awake_any _).mono ?_
                  rintro e w40 ⟨rfl, hb40⟩
                  go_wp2_with fail
                  go_ret
                  exact ⟨rfl, HBj.out.trans (hb40.mono hsj)⟩
            | true =>
              have HC := Lib.hid hC
              have h4 : 0 ≤ lo ∧ 0 ≤ hi ∧ lo ≤ 5 ∧ hi ≤ 5 := by simp only [within, Bool.and_eq_true, decide_eq_true_eq] at hC; omega
              clear hC
              obtain ⟨q1, q2, q3, q4⟩ := h4
              by_cases ho : hi < lo
              · have HO : Hid (decide (hi < lo) = true) := Lib.hid (decide_eq_true ho)
                as_aux_lemma =>
                  go_wp2_with fail
                  refine (Rises_ok b A1n6 c1n6 bs _ (HPd.out.up (zg)) h8' HG.out k x HX.out).mono ?_
                  rw [HR0.out, HR1.out]
                  rintro e we ⟨rfl, hbe⟩
                  have Hbe := Lib.hid (Holds.up (by have h := Hbd.out; exact zp : Holds _ (w.heap.size) 25 #[.int .i64 b.cool, .int .i64 b.gangs, .int .i64 b.r0, .int .i64 b.r1, .int .i64 b.r2, .int .i64 b.r3, .int .i64 b.r4, .int .i64 b.r5, .slice (some ⟨E0, oo, none⟩) bs.length c]) hbe)
                  have Hde := Lib.hid (Holds.up (by have h := Hdd.out; exact zp : Holds _ (w.heap.size + 1) 27 #[.int .i64 lo, .int .i64 hi]) hbe)
                  have Hoe := Lib.hid (Holds.up (by have h := Hod.out; exact zp : Holds _ (zn6) 25 #[.int .i64 b.cool, .int .i64 b.gangs, .int .i64 b.r0, .int .i64 b.r1, .int .i64 b.r2, .int .i64 b.r3, .int .i64 b.r4, .int .i64 b.r5, .slice A1n6 bs.length c1n6]) hbe)
                  have Hxe := Lib.hid (Holds.up (by have h := Hxd.out; exact zp : Holds _ (zn7) 33 #[.int .i64 b.cool, .int .i64 b.gangs, .int .i64 b.r0, .int .i64 b.r1, .int .i64 b.r2, .int .i64 b.r3, .int .i64 b.r4, .int .i64 b.r5, .slice A2n7 bs.length c2n7]) hbe)
                  have Hse := Lib.hid (Holds.up (by have h := Hsd.out; exact zp : Holds _ (wc.heap.size) 27 #[.int .i64 r0, .int .i64 r1]) hbe)
                  have Hye := Lib.hid (Holds.up (by have h := Hyd.out; exact zp : Holds _ (wc.heap.size + 1 + 1) 39 #[.int .i64 x.warm, .int .i64 x.mark, .int .i64 (l : Int), .int .i64 (m : Int)]) hbe)
                  have Hze := Lib.hid (Holds.up (by have h := Hzd.out; exact zp : Holds _ (wc.heap.size + 1) 25 #[.int .i64 0, .int .i64 0, .int .i64 0, .int .i64 0, .int .i64 0, .int .i64 0, .int .i64 0, .int .i64 0, .slice none 0 0]) hbe)
                  have HSe : Hid (Below wd.heap.size wd we) := Lib.hid (Below.trans (zg) (hbe.mono (by first | exact Nat.le_refl _ | omega | (simp; done) | (simp; omega))))
                  have HBe : Hid (Below w.heap.size w we) := Lib.hid (HBd.out.trans (HSe.out.mono hsd))
                  have hse := HBe.out.size
                  have hste := HSe.out.size
                  have HAe := Lib.hid (HAd.out.up HSe.out)
                  have HPe := Lib.hid (HPd.out.up HSe.out)
                  have HMe := Lib.hid (HMd.out.up HSe.out)
                  clear hbe
                  clear ko0 ko1 ko2 ko3 ko4 ko5 ko6 ko7 ko8 lt_o kd0 kd1 lt_d ky0 ky1 ky2 ky3 lt_y
                  have ko0 : we.cell? ⟨zn6, 0, none⟩ = some (.int .i64 b.cool) := Hoe.out.cell 0
                  have ko1 : we.cell? ⟨zn6, 1, none⟩ = some (.int .i64 b.gangs) := Hoe.out.cell 1
                  have ko2 : we.cell? ⟨zn6, 2, none⟩ = some (.int .i64 b.r0) := Hoe.out.cell 2
                  have ko3 : we.cell? ⟨zn6, 3, none⟩ = some (.int .i64 b.r1) := Hoe.out.cell 3
                  have ko4 : we.cell? ⟨zn6, 4, none⟩ = some (.int .i64 b.r2) := Hoe.out.cell 4
                  have ko5 : we.cell? ⟨zn6, 5, none⟩ = some (.int .i64 b.r3) := Hoe.out.cell 5
                  have ko6 : we.cell? ⟨zn6, 6, none⟩ = some (.int .i64 b.r4) := Hoe.out.cell 6
                  have ko7 : we.cell? ⟨zn6, 7, none⟩ = some (.int .i64 b.r5) := Hoe.out.cell 7
                  have ko8 : we.cell? ⟨zn6, 8, none⟩ = some (.slice A1n6 bs.length c1n6) := Hoe.out.cell 8
                  have lt_o : zn6 < we.heap.size := Hoe.out.lt
                  go_wp2_with fail
                  refine (Left_ok b A1n6 c1n6 bs _ (HPe.out.up (zg)) h8' HG.out k x HX.out).mono ?_
                  rw [HD1.out]
                  rintro e wf ⟨rfl, hbf⟩
                  have Hbf := Lib.hid (Holds.up (by have h := Hbe.out; exact zp : Holds _ (w.heap.size) 25 #[.int .i64 b.cool, .int .i64 b.gangs, .int .i64 b.r0, .int .i64 b.r1, .int .i64 b.r2, .int .i64 b.r3, .int .i64 b.r4, .int .i64 b.r5, .slice (some ⟨E0, oo, none⟩) bs.length c]) hbf)
                  have Hdf := Lib.hid (Holds.up (by have h := Hde.out; exact zp : Holds _ (w.heap.size + 1) 27 #[.int .i64 lo, .int .i64 hi]) hbf)
                  have Hof := Lib.hid (Holds.up (by have h := Hoe.out; exact zp : Holds _ (zn6) 25 #[.int .i64 b.cool, .int .i64 b.gangs, .int .i64 b.r0, .int .i64 b.r1, .int .i64 b.r2, .int .i64 b.r3, .int .i64 b.r4, .int .i64 b.r5, .slice A1n6 bs.length c1n6]) hbf)
                  have Hxf := Lib.hid (Holds.up (by have h := Hxe.out; exact zp : Holds _ (zn7) 33 #[.int .i64 b.cool, .int .i64 b.gangs, .int .i64 b.r0, .int .i64 b.r1, .int .i64 b.r2, .int .i64 b.r3, .int .i64 b.r4, .int .i64 b.r5, .slice A2n7 bs.length c2n7]) hbf)
                  have Hsf := Lib.hid (Holds.up (by have h := Hse.out; exact zp : Holds _ (wc.heap.size) 27 #[.int .i64 r0, .int .i64 r1]) hbf)
                  have Hyf := Lib.hid (Holds.up (by have h := Hye.out; exact zp : Holds _ (wc.heap.size + 1 + 1) 39 #[.int .i64 x.warm, .int .i64 x.mark, .int .i64 (l : Int), .int .i64 (m : Int)]) hbf)
                  have Hzf := Lib.hid (Holds.up (by have h := Hze.out; exact zp : Holds _ (wc.heap.size + 1) 25 #[.int .i64 0, .int .i64 0, .int .i64 0, .int .i64 0, .int .i64 0, .int .i64 0, .int .i64 0, .int .i64 0, .slice none 0 0]) hbf)
                  have Htf := Lib.hid (Holds.up (zp : Holds _ (we.heap.size) 27 #[.int .i64 r0, .int .i64 r1]) hbf)
                  have HSf : Hid (Below we.heap.size we wf) := Lib.hid (Below.trans (zg) (hbf.mono (by first | exact Nat.le_refl _ | omega | (simp; done) | (simp; omega))))
                  have HBf : Hid (Below w.heap.size w wf) := Lib.hid (HBe.out.trans (HSf.out.mono hse))
                  have hsf := HBf.out.size
                  have hstf := HSf.out.size
                  have HAf := Lib.hid (HAe.out.up HSf.out)
                  have HPf := Lib.hid (HPe.out.up HSf.out)
                  have HMf := Lib.hid (HMe.out.up HSf.out)
                  clear hbf
                  clear ko0 ko1 ko2 ko3 ko4 ko5 ko6 ko7 ko8 lt_o
                  have ko0 : wf.cell? ⟨zn6, 0, none⟩ = some (.int .i64 b.cool) := Hof.out.cell 0
                  have ko1 : wf.cell? ⟨zn6, 1, none⟩ = some (.int .i64 b.gangs) := Hof.out.cell 1
                  have ko2 : wf.cell? ⟨zn6, 2, none⟩ = some (.int .i64 b.r0) := Hof.out.cell 2
                  have ko3 : wf.cell? ⟨zn6, 3, none⟩ = some (.int .i64 b.r1) := Hof.out.cell 3
                  have ko4 : wf.cell? ⟨zn6, 4, none⟩ = some (.int .i64 b.r2) := Hof.out.cell 4
                  have ko5 : wf.cell? ⟨zn6, 5, none⟩ = some (.int .i64 b.r3) := Hof.out.cell 5
                  have ko6 : wf.cell? ⟨zn6, 6, none⟩ = some (.int .i64 b.r4) := Hof.out.cell 6
                  have ko7 : wf.cell? ⟨zn6, 7, none⟩ = some (.int .i64 b.r5) := Hof.out.cell 7
                  have ko8 : wf.cell? ⟨zn6, 8, none⟩ = some (.slice A1n6 bs.length c1n6) := Hof.out.cell 8
                  have lt_o : zn6 < wf.heap.size := Hof.out.lt
                  go_wp2_with fail
                  refine (Lasts_ok b A1n6 c1n6 bs _ (HPf.out.up (zg)) h8' HG.out k x HX.out).mono ?_
                  rw [HD2.out]
                  rintro e wg ⟨rfl, hbg⟩
                  have Hbg := Lib.hid (Holds.up (by have h := Hbf.out; exact zp : Holds _ (w.heap.size) 25 #[.int .i64 b.cool, .int .i64 b.gangs, .int .i64 b.r0, .int .i64 b.r1, .int .i64 b.r2, .int .i64 b.r3, .int .i64 b.r4, .int .i64 b.r5, .slice (some ⟨E0, oo, none⟩) bs.length c]) hbg)
                  have Hdg := Lib.hid (Holds.up (by have h := Hdf.out; exact zp : Holds _ (w.heap.size + 1) 27 #[.int .i64 lo, .int .i64 hi]) hbg)
                  have Hog := Lib.hid (Holds.up (by have h := Hof.out; exact zp : Holds _ (zn6) 25 #[.int .i64 b.cool, .int .i64 b.gangs, .int .i64 b.r0, .int .i64 b.r1, .int .i64 b.r2, .int .i64 b.r3, .int .i64 b.r4, .int .i64 b.r5, .slice A1n6 bs.length c1n6]) hbg)
                  have Hxg := Lib.hid (Holds.up (by have h := Hxf.out; exact zp : Holds _ (zn7) 33 #[.int .i64 b.cool, .int .i64 b.gangs, .int .i64 b.r0, .int .i64 b.r1, .int .i64 b.r2, .int .i64 b.r3, .int .i64 b.r4, .int .i64 b.r5, .slice A2n7 bs.length c2n7]) hbg)
                  have Hsg := Lib.hid (Holds.up (by have h := Hsf.out; exact zp : Holds _ (wc.heap.size) 27 #[.int .i64 r0, .int .i64 r1]) hbg)
                  have Hyg := Lib.hid (Holds.up (by have h := Hyf.out; exact zp : Holds _ (wc.heap.size + 1 + 1) 39 #[.int .i64 x.warm, .int .i64 x.mark, .int .i64 (l : Int), .int .i64 (m : Int)]) hbg)
                  have Hzg := Lib.hid (Holds.up (by have h := Hzf.out; exact zp : Holds _ (wc.heap.size + 1) 25 #[.int .i64 0, .int .i64 0, .int .i64 0, .int .i64 0, .int .i64 0, .int .i64 0, .int .i64 0, .int .i64 0, .slice none 0 0]) hbg)
                  have Htg := Lib.hid (Holds.up (by have h := Htf.out; exact zp : Holds _ (we.heap.size) 27 #[.int .i64 r0, .int .i64 r1]) hbg)
                  have HSg : Hid (Below wf.heap.size wf wg) := Lib.hid (Below.trans (zg) (hbg.mono (by first | exact Nat.le_refl _ | omega | (simp; done) | (simp; omega))))
                  have HBg : Hid (Below w.heap.size w wg) := Lib.hid (HBf.out.trans (HSg.out.mono hsf))
                  have hsg := HBg.out.size
                  have hstg := HSg.out.size
                  have HAg := Lib.hid (HAf.out.up HSg.out)
                  have HPg := Lib.hid (HPf.out.up HSg.out)
                  have HMg := Lib.hid (HMf.out.up HSg.out)
                  clear hbg
                  clear ko0 ko1 ko2 ko3 ko4 ko5 ko6 ko7 ko8 lt_o
                  have ko0 : wg.cell? ⟨zn6, 0, none⟩ = some (.int .i64 b.cool) := Hog.out.cell 0
                  have ko1 : wg.cell? ⟨zn6, 1, none⟩ = some (.int .i64 b.gangs) := Hog.out.cell 1
                  have ko2 : wg.cell? ⟨zn6, 2, none⟩ = some (.int .i64 b.r0) := Hog.out.cell 2
                  have ko3 : wg.cell? ⟨zn6, 3, none⟩ = some (.int .i64 b.r1) := Hog.out.cell 3
                  have ko4 : wg.cell? ⟨zn6, 4, none⟩ = some (.int .i64 b.r2) := Hog.out.cell 4
                  have ko5 : wg.cell? ⟨zn6, 5, none⟩ = some (.int .i64 b.r3) := Hog.out.cell 5
                  have ko6 : wg.cell? ⟨zn6, 6, none⟩ = some (.int .i64 b.r4) := Hog.out.cell 6
                  have ko7 : wg.cell? ⟨zn6, 7, none⟩ = some (.int .i64 b.r5) := Hog.out.cell 7
                  have ko8 : wg.cell? ⟨zn6, 8, none⟩ = some (.slice A1n6 bs.length c1n6) := Hog.out.cell 8
                  have lt_o : zn6 < wg.heap.size := Hog.out.lt
                  have kd0 : wg.cell? ⟨w.heap.size + 1, 0, none⟩ = some (.int .i64 lo) := Hdg.out.cell 0
                  have kd1 : wg.cell? ⟨w.heap.size + 1, 1, none⟩ = some (.int .i64 hi) := Hdg.out.cell 1
                  have lt_d : w.heap.size + 1 < wg.heap.size := Hdg.out.lt
                  go_wp2_with fail
                  refine (Sample_order b A1n6 c1n6 bs _ (HPg.out.up (zg)) h8' lo hi HG.out k x HX.out HC.out HO.out).mono ?_
                  rintro e wh ⟨rfl, hbh⟩
                  have Hbh := Lib.hid (Holds.up (by have h := Hbg.out; exact zp : Holds _ (w.heap.size) 25 #[.int .i64 b.cool, .int .i64 b.gangs, .int .i64 b.r0, .int .i64 b.r1, .int .i64 b.r2, .int .i64 b.r3, .int .i64 b.r4, .int .i64 b.r5, .slice (some ⟨E0, oo, none⟩) bs.length c]) hbh)
                  have Hdh := Lib.hid (Holds.up (by have h := Hdg.out; exact zp : Holds _ (w.heap.size + 1) 27 #[.int .i64 lo, .int .i64 hi]) hbh)
                  have Hoh := Lib.hid (Holds.up (by have h := Hog.out; exact zp : Holds _ (zn6) 25 #[.int .i64 b.cool, .int .i64 b.gangs, .int .i64 b.r0, .int .i64 b.r1, .int .i64 b.r2, .int .i64 b.r3, .int .i64 b.r4, .int .i64 b.r5, .slice A1n6 bs.length c1n6]) hbh)
                  have Hxh := Lib.hid (Holds.up (by have h := Hxg.out; exact zp : Holds _ (zn7) 33 #[.int .i64 b.cool, .int .i64 b.gangs, .int .i64 b.r0, .int .i64 b.r1, .int .i64 b.r2, .int .i64 b.r3, .int .i64 b.r4, .int .i64 b.r5, .slice A2n7 bs.length c2n7]) hbh)
                  have Hsh := Lib.hid (Holds.up (by have h := Hsg.out; exact zp : Holds _ (wc.heap.size) 27 #[.int .i64 r0, .int .i64 r1]) hbh)
                  have Hyh := Lib.hid (Holds.up (by have h := Hyg.out; exact zp : Holds _ (wc.heap.size + 1 + 1) 39 #[.int .i64 x.warm, .int .i64 x.mark, .int .i64 (l : Int), .int .i64 (m : Int)]) hbh)
                  have Hzh := Lib.hid (Holds.up (by have h := Hzg.out; exact zp : Holds _ (wc.heap.size + 1) 25 #[.int .i64 0, .int .i64 0, .int .i64 0, .int .i64 0, .int .i64 0, .int .i64 0, .int .i64 0, .int .i64 0, .slice none 0 0]) hbh)
                  have Hth := Lib.hid (Holds.up (by have h := Htg.out; exact zp : Holds _ (we.heap.size) 27 #[.int .i64 r0, .int .i64 r1]) hbh)
                  have HSh : Hid (Below wg.heap.size wg wh) := Lib.hid (Below.trans (zg) (hbh.mono (by first | exact Nat.le_refl _ | omega | (simp; done) | (simp; omega))))
                  have HBh : Hid (Below w.heap.size w wh) := Lib.hid (HBg.out.trans (HSh.out.mono hsg))
                  have hsh := HBh.out.size
                  have hsth := HSh.out.size
                  have HAh := Lib.hid (HAg.out.up HSh.out)
                  have HPh := Lib.hid (HPg.out.up HSh.out)
                  have HMh := Lib.hid (HMg.out.up HSh.out)
                  clear hbh
                  clear ko0 ko1 ko2 ko3 ko4 ko5 ko6 ko7 ko8 lt_o kd0 kd1 lt_d
                  have kt0 : wh.cell? ⟨we.heap.size, 0, none⟩ = some (.int .i64 r0) := Hth.out.cell 0
                  have kt1 : wh.cell? ⟨we.heap.size, 1, none⟩ = some (.int .i64 r1) := Hth.out.cell 1
                  have lt_t : we.heap.size < wh.heap.size := Hth.out.lt
                  have ks0 : wh.cell? ⟨wc.heap.size, 0, none⟩ = some (.int .i64 r0) := Hsh.out.cell 0
                  have ks1 : wh.cell? ⟨wc.heap.size, 1, none⟩ = some (.int .i64 r1) := Hsh.out.cell 1
                  have lt_s : wc.heap.size < wh.heap.size := Hsh.out.lt
                  have kz0 : wh.cell? ⟨wc.heap.size + 1, 0, none⟩ = some (.int .i64 0) := Hzh.out.cell 0
                  have kz1 : wh.cell? ⟨wc.heap.size + 1, 1, none⟩ = some (.int .i64 0) := Hzh.out.cell 1
                  have kz2 : wh.cell? ⟨wc.heap.size + 1, 2, none⟩ = some (.int .i64 0) := Hzh.out.cell 2
                  have kz3 : wh.cell? ⟨wc.heap.size + 1, 3, none⟩ = some (.int .i64 0) := Hzh.out.cell 3
                  have kz4 : wh.cell? ⟨wc.heap.size + 1, 4, none⟩ = some (.int .i64 0) := Hzh.out.cell 4
                  have kz5 : wh.cell? ⟨wc.heap.size + 1, 5, none⟩ = some (.int .i64 0) := Hzh.out.cell 5
                  have kz6 : wh.cell? ⟨wc.heap.size + 1, 6, none⟩ = some (.int .i64 0) := Hzh.out.cell 6
                  have kz7 : wh.cell? ⟨wc.heap.size + 1, 7, none⟩ = some (.int .i64 0) := Hzh.out.cell 7
                  have kz8 : wh.cell? ⟨wc.heap.size + 1, 8, none⟩ = some (.slice none 0 0) := Hzh.out.cell 8
                  have lt_z : wc.heap.size + 1 < wh.heap.size := Hzh.out.lt
                  have hneq := neq_span r0 r1
                  go_wp2_with fail
                  refine (same_same ⟨0, 0, 0, 0, 0, 0, 0, 0⟩ none none 0 0 [] _ (RowAt.nil _ _ _ _) (RowAt.nil _ _ _ _) (by decide)).mono ?_
                  rintro e wi ⟨rfl, hbi⟩
                  have Hbi := Lib.hid (Holds.up (by have h := Hbh.out; exact zp : Holds _ (w.heap.size) 25 #[.int .i64 b.cool, .int .i64 b.gangs, .int .i64 b.r0, .int .i64 b.r1, .int .i64 b.r2, .int .i64 b.r3, .int .i64 b.r4, .int .i64 b.r5, .slice (some ⟨E0, oo, none⟩) bs.length c]) hbi)
                  have Hdi := Lib.hid (Holds.up (by have h := Hdh.out; exact zp : Holds _ (w.heap.size + 1) 27 #[.int .i64 lo, .int .i64 hi]) hbi)
                  have Hoi := Lib.hid (Holds.up (by have h := Hoh.out; exact zp : Holds _ (zn6) 25 #[.int .i64 b.cool, .int .i64 b.gangs, .int .i64 b.r0, .int .i64 b.r1, .int .i64 b.r2, .int .i64 b.r3, .int .i64 b.r4, .int .i64 b.r5, .slice A1n6 bs.length c1n6]) hbi)
                  have Hxi := Lib.hid (Holds.up (by have h := Hxh.out; exact zp : Holds _ (zn7) 33 #[.int .i64 b.cool, .int .i64 b.gangs, .int .i64 b.r0, .int .i64 b.r1, .int .i64 b.r2, .int .i64 b.r3, .int .i64 b.r4, .int .i64 b.r5, .slice A2n7 bs.length c2n7]) hbi)
                  have Hsi := Lib.hid (Holds.up (by have h := Hsh.out; exact zp : Holds _ (wc.heap.size) 27 #[.int .i64 r0, .int .i64 r1]) hbi)
                  have Hyi := Lib.hid (Holds.up (by have h := Hyh.out; exact zp : Holds _ (wc.heap.size + 1 + 1) 39 #[.int .i64 x.warm, .int .i64 x.mark, .int .i64 (l : Int), .int .i64 (m : Int)]) hbi)
                  have Hzi := Lib.hid (Holds.up (by have h := Hzh.out; exact zp : Holds _ (wc.heap.size + 1) 25 #[.int .i64 0, .int .i64 0, .int .i64 0, .int .i64 0, .int .i64 0, .int .i64 0, .int .i64 0, .int .i64 0, .slice none 0 0]) hbi)
                  have Hti := Lib.hid (Holds.up (by have h := Hth.out; exact zp : Holds _ (we.heap.size) 27 #[.int .i64 r0, .int .i64 r1]) hbi)
                  have Hci := Lib.hid (Holds.up (zp : Holds _ (wh.heap.size) 25 #[.int .i64 0, .int .i64 0, .int .i64 0, .int .i64 0, .int .i64 0, .int .i64 0, .int .i64 0, .int .i64 0, .slice none 0 0]) hbi)
                  have HSi : Hid (Below wh.heap.size wh wi) := Lib.hid (Below.trans (zg) (hbi.mono (by first | exact Nat.le_refl _ | omega | (simp; done) | (simp; omega))))
                  have HBi : Hid (Below w.heap.size w wi) := Lib.hid (HBh.out.trans (HSi.out.mono hsh))
                  have hsi := HBi.out.size
                  have hsti := HSi.out.size
                  have HAi := Lib.hid (HAh.out.up HSi.out)
                  have HPi := Lib.hid (HPh.out.up HSi.out)
                  have HMi := Lib.hid (HMh.out.up HSi.out)
                  clear hbi
                  clear kt0 kt1 lt_t ks0 ks1 lt_s kz0 kz1 kz2 kz3 kz4 kz5 kz6 kz7 kz8 lt_z
                  have kc0 : wi.cell? ⟨wh.heap.size, 0, none⟩ = some (.int .i64 0) := Hci.out.cell 0
                  have kc1 : wi.cell? ⟨wh.heap.size, 1, none⟩ = some (.int .i64 0) := Hci.out.cell 1
                  have kc2 : wi.cell? ⟨wh.heap.size, 2, none⟩ = some (.int .i64 0) := Hci.out.cell 2
                  have kc3 : wi.cell? ⟨wh.heap.size, 3, none⟩ = some (.int .i64 0) := Hci.out.cell 3
                  have kc4 : wi.cell? ⟨wh.heap.size, 4, none⟩ = some (.int .i64 0) := Hci.out.cell 4
                  have kc5 : wi.cell? ⟨wh.heap.size, 5, none⟩ = some (.int .i64 0) := Hci.out.cell 5
                  have kc6 : wi.cell? ⟨wh.heap.size, 6, none⟩ = some (.int .i64 0) := Hci.out.cell 6
                  have kc7 : wi.cell? ⟨wh.heap.size, 7, none⟩ = some (.int .i64 0) := Hci.out.cell 7
                  have kc8 : wi.cell? ⟨wh.heap.size, 8, none⟩ = some (.slice none 0 0) := Hci.out.cell 8
                  have lt_c : wh.heap.size < wi.heap.size := Hci.out.lt
                  have hclr := run_clear_nil wi 0
                  have kb0 : wi.cell? ⟨w.heap.size, 0, none⟩ = some (.int .i64 b.cool) := Hbi.out.cell 0
                  have kb1 : wi.cell? ⟨w.heap.size, 1, none⟩ = some (.int .i64 b.gangs) := Hbi.out.cell 1
                  have kb2 : wi.cell? ⟨w.heap.size, 2, none⟩ = some (.int .i64 b.r0) := Hbi.out.cell 2
                  have kb3 : wi.cell? ⟨w.heap.size, 3, none⟩ = some (.int .i64 b.r1) := Hbi.out.cell 3
                  have kb4 : wi.cell? ⟨w.heap.size, 4, none⟩ = some (.int .i64 b.r2) := Hbi.out.cell 4
                  have kb5 : wi.cell? ⟨w.heap.size, 5, none⟩ = some (.int .i64 b.r3) := Hbi.out.cell 5
                  have kb6 : wi.cell? ⟨w.heap.size, 6, none⟩ = some (.int .i64 b.r4) := Hbi.out.cell 6
                  have kb7 : wi.cell? ⟨w.heap.size, 7, none⟩ = some (.int .i64 b.r5) := Hbi.out.cell 7
                  have kb8 : wi.cell? ⟨w.heap.size, 8, none⟩ = some (.slice (some ⟨E0, oo, none⟩) bs.length c) := Hbi.out.cell 8
                  have lt_b : w.heap.size < wi.heap.size := Hbi.out.lt
                  have ko0 : wi.cell? ⟨zn6, 0, none⟩ = some (.int .i64 b.cool) := Hoi.out.cell 0
                  have ko1 : wi.cell? ⟨zn6, 1, none⟩ = some (.int .i64 b.gangs) := Hoi.out.cell 1
                  have ko2 : wi.cell? ⟨zn6, 2, none⟩ = some (.int .i64 b.r0) := Hoi.out.cell 2
                  have ko3 : wi.cell? ⟨zn6, 3, none⟩ = some (.int .i64 b.r1) := Hoi.out.cell 3
                  have ko4 : wi.cell? ⟨zn6, 4, none⟩ = some (.int .i64 b.r2) := Hoi.out.cell 4
                  have ko5 : wi.cell? ⟨zn6, 5, none⟩ = some (.int .i64 b.r3) := Hoi.out.cell 5
                  have ko6 : wi.cell? ⟨zn6, 6, none⟩ = some (.int .i64 b.r4) := Hoi.out.cell 6
                  have ko7 : wi.cell? ⟨zn6, 7, none⟩ = some (.int .i64 b.r5) := Hoi.out.cell 7
                  have ko8 : wi.cell? ⟨zn6, 8, none⟩ = some (.slice A1n6 bs.length c1n6) := Hoi.out.cell 8
                  have lt_o : zn6 < wi.heap.size := Hoi.out.lt
                  go_wp2_with (at_builtin; go_loud (refine wpList_clear_run _ rfl _ _ rfl _ rfl hclr ?_))
                  refine (same_same b A1n6 (some ⟨E0, oo, none⟩) c1n6 c bs _ (HPi.out.up (zg)) (HAi.out.up (zg)) h8').mono ?_
                  rintro e wj ⟨rfl, hbj⟩
                  have Hbj := Lib.hid (Holds.up (by have h := Hbi.out; exact zp : Holds _ (w.heap.size) 25 #[.int .i64 b.cool, .int .i64 b.gangs, .int .i64 b.r0, .int .i64 b.r1, .int .i64 b.r2, .int .i64 b.r3, .int .i64 b.r4, .int .i64 b.r5, .slice (some ⟨E0, oo, none⟩) bs.length c]) hbj)
                  have Hoj := Lib.hid (Holds.up (by have h := Hoi.out; exact zp : Holds _ (zn6) 25 #[.int .i64 b.cool, .int .i64 b.gangs, .int .i64 b.r0, .int .i64 b.r1, .int .i64 b.r2, .int .i64 b.r3, .int .i64 b.r4, .int .i64 b.r5, .slice A1n6 bs.length c1n6]) hbj)
                  have HSj : Hid (Below wi.heap.size wi wj) := Lib.hid (Below.trans (zg) (hbj.mono (by first | exact Nat.le_refl _ | omega | (simp; done) | (simp; omega))))
                  have HBj : Hid (Below w.heap.size w wj) := Lib.hid (HBi.out.trans (HSj.out.mono hsi))
                  have hsj := HBj.out.size
                  have hstj := HSj.out.size
                  have HAj := Lib.hid (HAi.out.up HSj.out)
                  have HPj := Lib.hid (HPi.out.up HSj.out)
                  clear hbj
                  clear kb0 kb1 kb2 kb3 kb4 kb5 kb6 kb7 kb8 lt_b ko0 ko1 ko2 ko3 ko4 ko5 ko6 ko7 ko8 lt_o
                  go_wp2_with fail
                  refine (awake_any _).mono ?_
                  rintro e w40 ⟨rfl, hb40⟩
                  go_wp2_with fail
                  go_ret
                  exact ⟨rfl, HBj.out.trans (hb40.mono hsj)⟩
              · have HO : Hid (decide (hi < lo) = false) := Lib.hid (decide_eq_false ho)
                have ho' : lo ≤ hi := by omega
                obtain ⟨p, hp⟩ : ∃ z, max x.lo lo = z := ⟨_, rfl⟩
                obtain ⟨q, hq⟩ : ∃ z, min x.hi hi = z := ⟨_, rfl⟩
                have hmax : ∀ (ats : Array TypeId) (ty : TypeId) (w' : World), (Builtin.max_ ats ty #[.int .i64 lo, .int .i64 (l : Int)]).run Try.prog w' = .ok (.int .i64 p) w' := fun ats ty w' => by rw [run_max, ← HLO.out, Int.max_comm, hp]
                have hmin : ∀ (ats : Array TypeId) (ty : TypeId) (w' : World), (Builtin.min_ ats ty #[.int .i64 hi, .int .i64 (m : Int)]).run Try.prog w' = .ok (.int .i64 q) w' := fun ats ty w' => by rw [run_min, ← HHI.out, Int.min_comm, hq]
                have HPP := Lib.hid hp
                have HQQ := Lib.hid hq
                clear hp hq
                by_cases hcl : q < p
                · have HV : Hid (decide (min x.hi hi < max x.lo lo) = true) := Lib.hid (by rw [HPP.out, HQQ.out]; exact decide_eq_true hcl)
                  as_aux_lemma =>
                    go_wp2_with fail
                    refine (Rises_ok b A1n6 c1n6 bs _ (HPd.out.up (zg)) h8' HG.out k x HX.out).mono ?_
                    rw [HR0.out, HR1.out]
                    rintro e we ⟨rfl, hbe⟩
                    have Hbe := Lib.hid (Holds.up (by have h := Hbd.out; exact zp : Holds _ (w.heap.size) 25 #[.int .i64 b.cool, .int .i64 b.gangs, .int .i64 b.r0, .int .i64 b.r1, .int .i64 b.r2, .int .i64 b.r3, .int .i64 b.r4, .int .i64 b.r5, .slice (some ⟨E0, oo, none⟩) bs.length c]) hbe)
                    have Hde := Lib.hid (Holds.up (by have h := Hdd.out; exact zp : Holds _ (w.heap.size + 1) 27 #[.int .i64 lo, .int .i64 hi]) hbe)
                    have Hoe := Lib.hid (Holds.up (by have h := Hod.out; exact zp : Holds _ (zn6) 25 #[.int .i64 b.cool, .int .i64 b.gangs, .int .i64 b.r0, .int .i64 b.r1, .int .i64 b.r2, .int .i64 b.r3, .int .i64 b.r4, .int .i64 b.r5, .slice A1n6 bs.length c1n6]) hbe)
                    have Hxe := Lib.hid (Holds.up (by have h := Hxd.out; exact zp : Holds _ (zn7) 33 #[.int .i64 b.cool, .int .i64 b.gangs, .int .i64 b.r0, .int .i64 b.r1, .int .i64 b.r2, .int .i64 b.r3, .int .i64 b.r4, .int .i64 b.r5, .slice A2n7 bs.length c2n7]) hbe)
                    have Hse := Lib.hid (Holds.up (by have h := Hsd.out; exact zp : Holds _ (wc.heap.size) 27 #[.int .i64 r0, .int .i64 r1]) hbe)
                    have Hye := Lib.hid (Holds.up (by have h := Hyd.out; exact zp : Holds _ (wc.heap.size + 1 + 1) 39 #[.int .i64 x.warm, .int .i64 x.mark, .int .i64 (l : Int), .int .i64 (m : Int)]) hbe)
                    have Hze := Lib.hid (Holds.up (by have h := Hzd.out; exact zp : Holds _ (wc.heap.size + 1) 25 #[.int .i64 0, .int .i64 0, .int .i64 0, .int .i64 0, .int .i64 0, .int .i64 0, .int .i64 0, .int .i64 0, .slice none 0 0]) hbe)
                    have HSe : Hid (Below wd.heap.size wd we) := Lib.hid (Below.trans (zg) (hbe.mono (by first | exact Nat.le_refl _ | omega | (simp; done) | (simp; omega))))
                    have HBe : Hid (Below w.heap.size w we) := Lib.hid (HBd.out.trans (HSe.out.mono hsd))
                    have hse := HBe.out.size
                    have hste := HSe.out.size
                    have HAe := Lib.hid (HAd.out.up HSe.out)
                    have HPe := Lib.hid (HPd.out.up HSe.out)
                    have HMe := Lib.hid (HMd.out.up HSe.out)
                    clear hbe
                    clear ko0 ko1 ko2 ko3 ko4 ko5 ko6 ko7 ko8 lt_o kd0 kd1 lt_d ky0 ky1 ky2 ky3 lt_y
                    have ko0 : we.cell? ⟨zn6, 0, none⟩ = some (.int .i64 b.cool) := Hoe.out.cell 0
                    have ko1 : we.cell? ⟨zn6, 1, none⟩ = some (.int .i64 b.gangs) := Hoe.out.cell 1
                    have ko2 : we.cell? ⟨zn6, 2, none⟩ = some (.int .i64 b.r0) := Hoe.out.cell 2
                    have ko3 : we.cell? ⟨zn6, 3, none⟩ = some (.int .i64 b.r1) := Hoe.out.cell 3
                    have ko4 : we.cell? ⟨zn6, 4, none⟩ = some (.int .i64 b.r2) := Hoe.out.cell 4
                    have ko5 : we.cell? ⟨zn6, 5, none⟩ = some (.int .i64 b.r3) := Hoe.out.cell 5
                    have ko6 : we.cell? ⟨zn6, 6, none⟩ = some (.int .i64 b.r4) := Hoe.out.cell 6
                    have ko7 : we.cell? ⟨zn6, 7, none⟩ = some (.int .i64 b.r5) := Hoe.out.cell 7
                    have ko8 : we.cell? ⟨zn6, 8, none⟩ = some (.slice A1n6 bs.length c1n6) := Hoe.out.cell 8
                    have lt_o : zn6 < we.heap.size := Hoe.out.lt
                    go_wp2_with fail
                    refine (Left_ok b A1n6 c1n6 bs _ (HPe.out.up (zg)) h8' HG.out k x HX.out).mono ?_
                    rw [HD1.out]
                    rintro e wf ⟨rfl, hbf⟩
                    have Hbf := Lib.hid (Holds.up (by have h := Hbe.out; exact zp : Holds _ (w.heap.size) 25 #[.int .i64 b.cool, .int .i64 b.gangs, .int .i64 b.r0, .int .i64 b.r1, .int .i64 b.r2, .int .i64 b.r3, .int .i64 b.r4, .int .i64 b.r5, .slice (some ⟨E0, oo, none⟩) bs.length c]) hbf)
                    have Hdf := Lib.hid (Holds.up (by have h := Hde.out; exact zp : Holds _ (w.heap.size + 1) 27 #[.int .i64 lo, .int .i64 hi]) hbf)
                    have Hof := Lib.hid (Holds.up (by have h := Hoe.out; exact zp : Holds _ (zn6) 25 #[.int .i64 b.cool, .int .i64 b.gangs, .int .i64 b.r0, .int .i64 b.r1, .int .i64 b.r2, .int .i64 b.r3, .int .i64 b.r4, .int .i64 b.r5, .slice A1n6 bs.length c1n6]) hbf)
                    have Hxf := Lib.hid (Holds.up (by have h := Hxe.out; exact zp : Holds _ (zn7) 33 #[.int .i64 b.cool, .int .i64 b.gangs, .int .i64 b.r0, .int .i64 b.r1, .int .i64 b.r2, .int .i64 b.r3, .int .i64 b.r4, .int .i64 b.r5, .slice A2n7 bs.length c2n7]) hbf)
                    have Hsf := Lib.hid (Holds.up (by have h := Hse.out; exact zp : Holds _ (wc.heap.size) 27 #[.int .i64 r0, .int .i64 r1]) hbf)
                    have Hyf := Lib.hid (Holds.up (by have h := Hye.out; exact zp : Holds _ (wc.heap.size + 1 + 1) 39 #[.int .i64 x.warm, .int .i64 x.mark, .int .i64 (l : Int), .int .i64 (m : Int)]) hbf)
                    have Hzf := Lib.hid (Holds.up (by have h := Hze.out; exact zp : Holds _ (wc.heap.size + 1) 25 #[.int .i64 0, .int .i64 0, .int .i64 0, .int .i64 0, .int .i64 0, .int .i64 0, .int .i64 0, .int .i64 0, .slice none 0 0]) hbf)
                    have Htf := Lib.hid (Holds.up (zp : Holds _ (we.heap.size) 27 #[.int .i64 r0, .int .i64 r1]) hbf)
                    have HSf : Hid (Below we.heap.size we wf) := Lib.hid (Below.trans (zg) (hbf.mono (by first | exact Nat.le_refl _ | omega | (simp; done) | (simp; omega))))
                    have HBf : Hid (Below w.heap.size w wf) := Lib.hid (HBe.out.trans (HSf.out.mono hse))
                    have hsf := HBf.out.size
                    have hstf := HSf.out.size
                    have HAf := Lib.hid (HAe.out.up HSf.out)
                    have HPf := Lib.hid (HPe.out.up HSf.out)
                    have HMf := Lib.hid (HMe.out.up HSf.out)
                    clear hbf
                    clear ko0 ko1 ko2 ko3 ko4 ko5 ko6 ko7 ko8 lt_o
                    have ko0 : wf.cell? ⟨zn6, 0, none⟩ = some (.int .i64 b.cool) := Hof.out.cell 0
                    have ko1 : wf.cell? ⟨zn6, 1, none⟩ = some (.int .i64 b.gangs) := Hof.out.cell 1
                    have ko2 : wf.cell? ⟨zn6, 2, none⟩ = some (.int .i64 b.r0) := Hof.out.cell 2
                    have ko3 : wf.cell? ⟨zn6, 3, none⟩ = some (.int .i64 b.r1) := Hof.out.cell 3
                    have ko4 : wf.cell? ⟨zn6, 4, none⟩ = some (.int .i64 b.r2) := Hof.out.cell 4
                    have ko5 : wf.cell? ⟨zn6, 5, none⟩ = some (.int .i64 b.r3) := Hof.out.cell 5
                    have ko6 : wf.cell? ⟨zn6, 6, none⟩ = some (.int .i64 b.r4) := Hof.out.cell 6
                    have ko7 : wf.cell? ⟨zn6, 7, none⟩ = some (.int .i64 b.r5) := Hof.out.cell 7
                    have ko8 : wf.cell? ⟨zn6, 8, none⟩ = some (.slice A1n6 bs.length c1n6) := Hof.out.cell 8
                    have lt_o : zn6 < wf.heap.size := Hof.out.lt
                    go_wp2_with fail
                    refine (Lasts_ok b A1n6 c1n6 bs _ (HPf.out.up (zg)) h8' HG.out k x HX.out).mono ?_
                    rw [HD2.out]
                    rintro e wg ⟨rfl, hbg⟩
                    have Hbg := Lib.hid (Holds.up (by have h := Hbf.out; exact zp : Holds _ (w.heap.size) 25 #[.int .i64 b.cool, .int .i64 b.gangs, .int .i64 b.r0, .int .i64 b.r1, .int .i64 b.r2, .int .i64 b.r3, .int .i64 b.r4, .int .i64 b.r5, .slice (some ⟨E0, oo, none⟩) bs.length c]) hbg)
                    have Hdg := Lib.hid (Holds.up (by have h := Hdf.out; exact zp : Holds _ (w.heap.size + 1) 27 #[.int .i64 lo, .int .i64 hi]) hbg)
                    have Hog := Lib.hid (Holds.up (by have h := Hof.out; exact zp : Holds _ (zn6) 25 #[.int .i64 b.cool, .int .i64 b.gangs, .int .i64 b.r0, .int .i64 b.r1, .int .i64 b.r2, .int .i64 b.r3, .int .i64 b.r4, .int .i64 b.r5, .slice A1n6 bs.length c1n6]) hbg)
                    have Hxg := Lib.hid (Holds.up (by have h := Hxf.out; exact zp : Holds _ (zn7) 33 #[.int .i64 b.cool, .int .i64 b.gangs, .int .i64 b.r0, .int .i64 b.r1, .int .i64 b.r2, .int .i64 b.r3, .int .i64 b.r4, .int .i64 b.r5, .slice A2n7 bs.length c2n7]) hbg)
                    have Hsg := Lib.hid (Holds.up (by have h := Hsf.out; exact zp : Holds _ (wc.heap.size) 27 #[.int .i64 r0, .int .i64 r1]) hbg)
                    have Hyg := Lib.hid (Holds.up (by have h := Hyf.out; exact zp : Holds _ (wc.heap.size + 1 + 1) 39 #[.int .i64 x.warm, .int .i64 x.mark, .int .i64 (l : Int), .int .i64 (m : Int)]) hbg)
                    have Hzg := Lib.hid (Holds.up (by have h := Hzf.out; exact zp : Holds _ (wc.heap.size + 1) 25 #[.int .i64 0, .int .i64 0, .int .i64 0, .int .i64 0, .int .i64 0, .int .i64 0, .int .i64 0, .int .i64 0, .slice none 0 0]) hbg)
                    have Htg := Lib.hid (Holds.up (by have h := Htf.out; exact zp : Holds _ (we.heap.size) 27 #[.int .i64 r0, .int .i64 r1]) hbg)
                    have HSg : Hid (Below wf.heap.size wf wg) := Lib.hid (Below.trans (zg) (hbg.mono (by first | exact Nat.le_refl _ | omega | (simp; done) | (simp; omega))))
                    have HBg : Hid (Below w.heap.size w wg) := Lib.hid (HBf.out.trans (HSg.out.mono hsf))
                    have hsg := HBg.out.size
                    have hstg := HSg.out.size
                    have HAg := Lib.hid (HAf.out.up HSg.out)
                    have HPg := Lib.hid (HPf.out.up HSg.out)
                    have HMg := Lib.hid (HMf.out.up HSg.out)
                    clear hbg
                    clear ko0 ko1 ko2 ko3 ko4 ko5 ko6 ko7 ko8 lt_o
                    have ko0 : wg.cell? ⟨zn6, 0, none⟩ = some (.int .i64 b.cool) := Hog.out.cell 0
                    have ko1 : wg.cell? ⟨zn6, 1, none⟩ = some (.int .i64 b.gangs) := Hog.out.cell 1
                    have ko2 : wg.cell? ⟨zn6, 2, none⟩ = some (.int .i64 b.r0) := Hog.out.cell 2
                    have ko3 : wg.cell? ⟨zn6, 3, none⟩ = some (.int .i64 b.r1) := Hog.out.cell 3
                    have ko4 : wg.cell? ⟨zn6, 4, none⟩ = some (.int .i64 b.r2) := Hog.out.cell 4
                    have ko5 : wg.cell? ⟨zn6, 5, none⟩ = some (.int .i64 b.r3) := Hog.out.cell 5
                    have ko6 : wg.cell? ⟨zn6, 6, none⟩ = some (.int .i64 b.r4) := Hog.out.cell 6
                    have ko7 : wg.cell? ⟨zn6, 7, none⟩ = some (.int .i64 b.r5) := Hog.out.cell 7
                    have ko8 : wg.cell? ⟨zn6, 8, none⟩ = some (.slice A1n6 bs.length c1n6) := Hog.out.cell 8
                    have lt_o : zn6 < wg.heap.size := Hog.out.lt
                    have kd0 : wg.cell? ⟨w.heap.size + 1, 0, none⟩ = some (.int .i64 lo) := Hdg.out.cell 0
                    have kd1 : wg.cell? ⟨w.heap.size + 1, 1, none⟩ = some (.int .i64 hi) := Hdg.out.cell 1
                    have lt_d : w.heap.size + 1 < wg.heap.size := Hdg.out.lt
                    go_wp2_with fail
                    refine (Sample_clash b A1n6 c1n6 bs _ (HPg.out.up (zg)) h8' lo hi HG.out k x HX.out HC.out HO.out HV.out).mono ?_
                    rintro e wh ⟨rfl, hbh⟩
                    have Hbh := Lib.hid (Holds.up (by have h := Hbg.out; exact zp : Holds _ (w.heap.size) 25 #[.int .i64 b.cool, .int .i64 b.gangs, .int .i64 b.r0, .int .i64 b.r1, .int .i64 b.r2, .int .i64 b.r3, .int .i64 b.r4, .int .i64 b.r5, .slice (some ⟨E0, oo, none⟩) bs.length c]) hbh)
                    have Hdh := Lib.hid (Holds.up (by have h := Hdg.out; exact zp : Holds _ (w.heap.size + 1) 27 #[.int .i64 lo, .int .i64 hi]) hbh)
                    have Hoh := Lib.hid (Holds.up (by have h := Hog.out; exact zp : Holds _ (zn6) 25 #[.int .i64 b.cool, .int .i64 b.gangs, .int .i64 b.r0, .int .i64 b.r1, .int .i64 b.r2, .int .i64 b.r3, .int .i64 b.r4, .int .i64 b.r5, .slice A1n6 bs.length c1n6]) hbh)
                    have Hxh := Lib.hid (Holds.up (by have h := Hxg.out; exact zp : Holds _ (zn7) 33 #[.int .i64 b.cool, .int .i64 b.gangs, .int .i64 b.r0, .int .i64 b.r1, .int .i64 b.r2, .int .i64 b.r3, .int .i64 b.r4, .int .i64 b.r5, .slice A2n7 bs.length c2n7]) hbh)
                    have Hsh := Lib.hid (Holds.up (by have h := Hsg.out; exact zp : Holds _ (wc.heap.size) 27 #[.int .i64 r0, .int .i64 r1]) hbh)
                    have Hyh := Lib.hid (Holds.up (by have h := Hyg.out; exact zp : Holds _ (wc.heap.size + 1 + 1) 39 #[.int .i64 x.warm, .int .i64 x.mark, .int .i64 (l : Int), .int .i64 (m : Int)]) hbh)
                    have Hzh := Lib.hid (Holds.up (by have h := Hzg.out; exact zp : Holds _ (wc.heap.size + 1) 25 #[.int .i64 0, .int .i64 0, .int .i64 0, .int .i64 0, .int .i64 0, .int .i64 0, .int .i64 0, .int .i64 0, .slice none 0 0]) hbh)
                    have Hth := Lib.hid (Holds.up (by have h := Htg.out; exact zp : Holds _ (we.heap.size) 27 #[.int .i64 r0, .int .i64 r1]) hbh)
                    have HSh : Hid (Below wg.heap.size wg wh) := Lib.hid (Below.trans (zg) (hbh.mono (by first | exact Nat.le_refl _ | omega | (simp; done) | (simp; omega))))
                    have HBh : Hid (Below w.heap.size w wh) := Lib.hid (HBg.out.trans (HSh.out.mono hsg))
                    have hsh := HBh.out.size
                    have hsth := HSh.out.size
                    have HAh := Lib.hid (HAg.out.up HSh.out)
                    have HPh := Lib.hid (HPg.out.up HSh.out)
                    have HMh := Lib.hid (HMg.out.up HSh.out)
                    clear hbh
                    clear ko0 ko1 ko2 ko3 ko4 ko5 ko6 ko7 ko8 lt_o kd0 kd1 lt_d
                    have kt0 : wh.cell? ⟨we.heap.size, 0, none⟩ = some (.int .i64 r0) := Hth.out.cell 0
                    have kt1 : wh.cell? ⟨we.heap.size, 1, none⟩ = some (.int .i64 r1) := Hth.out.cell 1
                    have lt_t : we.heap.size < wh.heap.size := Hth.out.lt
                    have ks0 : wh.cell? ⟨wc.heap.size, 0, none⟩ = some (.int .i64 r0) := Hsh.out.cell 0
                    have ks1 : wh.cell? ⟨wc.heap.size, 1, none⟩ = some (.int .i64 r1) := Hsh.out.cell 1
                    have lt_s : wc.heap.size < wh.heap.size := Hsh.out.lt
                    have kz0 : wh.cell? ⟨wc.heap.size + 1, 0, none⟩ = some (.int .i64 0) := Hzh.out.cell 0
                    have kz1 : wh.cell? ⟨wc.heap.size + 1, 1, none⟩ = some (.int .i64 0) := Hzh.out.cell 1
                    have kz2 : wh.cell? ⟨wc.heap.size + 1, 2, none⟩ = some (.int .i64 0) := Hzh.out.cell 2
                    have kz3 : wh.cell? ⟨wc.heap.size + 1, 3, none⟩ = some (.int .i64 0) := Hzh.out.cell 3
                    have kz4 : wh.cell? ⟨wc.heap.size + 1, 4, none⟩ = some (.int .i64 0) := Hzh.out.cell 4
                    have kz5 : wh.cell? ⟨wc.heap.size + 1, 5, none⟩ = some (.int .i64 0) := Hzh.out.cell 5
                    have kz6 : wh.cell? ⟨wc.heap.size + 1, 6, none⟩ = some (.int .i64 0) := Hzh.out.cell 6
                    have kz7 : wh.cell? ⟨wc.heap.size + 1, 7, none⟩ = some (.int .i64 0) := Hzh.out.cell 7
                    have kz8 : wh.cell? ⟨wc.heap.size + 1, 8, none⟩ = some (.slice none 0 0) := Hzh.out.cell 8
                    have lt_z : wc.heap.size + 1 < wh.heap.size := Hzh.out.lt
                    have hneq := neq_span r0 r1
                    go_wp2_with fail
                    refine (same_same ⟨0, 0, 0, 0, 0, 0, 0, 0⟩ none none 0 0 [] _ (RowAt.nil _ _ _ _) (RowAt.nil _ _ _ _) (by decide)).mono ?_
                    rintro e wi ⟨rfl, hbi⟩
                    have Hbi := Lib.hid (Holds.up (by have h := Hbh.out; exact zp : Holds _ (w.heap.size) 25 #[.int .i64 b.cool, .int .i64 b.gangs, .int .i64 b.r0, .int .i64 b.r1, .int .i64 b.r2, .int .i64 b.r3, .int .i64 b.r4, .int .i64 b.r5, .slice (some ⟨E0, oo, none⟩) bs.length c]) hbi)
                    have Hdi := Lib.hid (Holds.up (by have h := Hdh.out; exact zp : Holds _ (w.heap.size + 1) 27 #[.int .i64 lo, .int .i64 hi]) hbi)
                    have Hoi := Lib.hid (Holds.up (by have h := Hoh.out; exact zp : Holds _ (zn6) 25 #[.int .i64 b.cool, .int .i64 b.gangs, .int .i64 b.r0, .int .i64 b.r1, .int .i64 b.r2, .int .i64 b.r3, .int .i64 b.r4, .int .i64 b.r5, .slice A1n6 bs.length c1n6]) hbi)
                    have Hxi := Lib.hid (Holds.up (by have h := Hxh.out; exact zp : Holds _ (zn7) 33 #[.int .i64 b.cool, .int .i64 b.gangs, .int .i64 b.r0, .int .i64 b.r1, .int .i64 b.r2, .int .i64 b.r3, .int .i64 b.r4, .int .i64 b.r5, .slice A2n7 bs.length c2n7]) hbi)
                    have Hsi := Lib.hid (Holds.up (by have h := Hsh.out; exact zp : Holds _ (wc.heap.size) 27 #[.int .i64 r0, .int .i64 r1]) hbi)
                    have Hyi := Lib.hid (Holds.up (by have h := Hyh.out; exact zp : Holds _ (wc.heap.size + 1 + 1) 39 #[.int .i64 x.warm, .int .i64 x.mark, .int .i64 (l : Int), .int .i64 (m : Int)]) hbi)
                    have Hzi := Lib.hid (Holds.up (by have h := Hzh.out; exact zp : Holds _ (wc.heap.size + 1) 25 #[.int .i64 0, .int .i64 0, .int .i64 0, .int .i64 0, .int .i64 0, .int .i64 0, .int .i64 0, .int .i64 0, .slice none 0 0]) hbi)
                    have Hti := Lib.hid (Holds.up (by have h := Hth.out; exact zp : Holds _ (we.heap.size) 27 #[.int .i64 r0, .int .i64 r1]) hbi)
                    have Hci := Lib.hid (Holds.up (zp : Holds _ (wh.heap.size) 25 #[.int .i64 0, .int .i64 0, .int .i64 0, .int .i64 0, .int .i64 0, .int .i64 0, .int .i64 0, .int .i64 0, .slice none 0 0]) hbi)
                    have HSi : Hid (Below wh.heap.size wh wi) := Lib.hid (Below.trans (zg) (hbi.mono (by first | exact Nat.le_refl _ | omega | (simp; done) | (simp; omega))))
                    have HBi : Hid (Below w.heap.size w wi) := Lib.hid (HBh.out.trans (HSi.out.mono hsh))
                    have hsi := HBi.out.size
                    have hsti := HSi.out.size
                    have HAi := Lib.hid (HAh.out.up HSi.out)
                    have HPi := Lib.hid (HPh.out.up HSi.out)
                    have HMi := Lib.hid (HMh.out.up HSi.out)
                    clear hbi
                    clear kt0 kt1 lt_t ks0 ks1 lt_s kz0 kz1 kz2 kz3 kz4 kz5 kz6 kz7 kz8 lt_z
                    have kc0 : wi.cell? ⟨wh.heap.size, 0, none⟩ = some (.int .i64 0) := Hci.out.cell 0
                    have kc1 : wi.cell? ⟨wh.heap.size, 1, none⟩ = some (.int .i64 0) := Hci.out.cell 1
                    have kc2 : wi.cell? ⟨wh.heap.size, 2, none⟩ = some (.int .i64 0) := Hci.out.cell 2
                    have kc3 : wi.cell? ⟨wh.heap.size, 3, none⟩ = some (.int .i64 0) := Hci.out.cell 3
                    have kc4 : wi.cell? ⟨wh.heap.size, 4, none⟩ = some (.int .i64 0) := Hci.out.cell 4
                    have kc5 : wi.cell? ⟨wh.heap.size, 5, none⟩ = some (.int .i64 0) := Hci.out.cell 5
                    have kc6 : wi.cell? ⟨wh.heap.size, 6, none⟩ = some (.int .i64 0) := Hci.out.cell 6
                    have kc7 : wi.cell? ⟨wh.heap.size, 7, none⟩ = some (.int .i64 0) := Hci.out.cell 7
                    have kc8 : wi.cell? ⟨wh.heap.size, 8, none⟩ = some (.slice none 0 0) := Hci.out.cell 8
                    have lt_c : wh.heap.size < wi.heap.size := Hci.out.lt
                    have hclr := run_clear_nil wi 0
                    have kb0 : wi.cell? ⟨w.heap.size, 0, none⟩ = some (.int .i64 b.cool) := Hbi.out.cell 0
                    have kb1 : wi.cell? ⟨w.heap.size, 1, none⟩ = some (.int .i64 b.gangs) := Hbi.out.cell 1
                    have kb2 : wi.cell? ⟨w.heap.size, 2, none⟩ = some (.int .i64 b.r0) := Hbi.out.cell 2
                    have kb3 : wi.cell? ⟨w.heap.size, 3, none⟩ = some (.int .i64 b.r1) := Hbi.out.cell 3
                    have kb4 : wi.cell? ⟨w.heap.size, 4, none⟩ = some (.int .i64 b.r2) := Hbi.out.cell 4
                    have kb5 : wi.cell? ⟨w.heap.size, 5, none⟩ = some (.int .i64 b.r3) := Hbi.out.cell 5
                    have kb6 : wi.cell? ⟨w.heap.size, 6, none⟩ = some (.int .i64 b.r4) := Hbi.out.cell 6
                    have kb7 : wi.cell? ⟨w.heap.size, 7, none⟩ = some (.int .i64 b.r5) := Hbi.out.cell 7
                    have kb8 : wi.cell? ⟨w.heap.size, 8, none⟩ = some (.slice (some ⟨E0, oo, none⟩) bs.length c) := Hbi.out.cell 8
                    have lt_b : w.heap.size < wi.heap.size := Hbi.out.lt
                    have ko0 : wi.cell? ⟨zn6, 0, none⟩ = some (.int .i64 b.cool) := Hoi.out.cell 0
                    have ko1 : wi.cell? ⟨zn6, 1, none⟩ = some (.int .i64 b.gangs) := Hoi.out.cell 1
                    have ko2 : wi.cell? ⟨zn6, 2, none⟩ = some (.int .i64 b.r0) := Hoi.out.cell 2
                    have ko3 : wi.cell? ⟨zn6, 3, none⟩ = some (.int .i64 b.r1) := Hoi.out.cell 3
                    have ko4 : wi.cell? ⟨zn6, 4, none⟩ = some (.int .i64 b.r2) := Hoi.out.cell 4
                    have ko5 : wi.cell? ⟨zn6, 5, none⟩ = some (.int .i64 b.r3) := Hoi.out.cell 5
                    have ko6 : wi.cell? ⟨zn6, 6, none⟩ = some (.int .i64 b.r4) := Hoi.out.cell 6
                    have ko7 : wi.cell? ⟨zn6, 7, none⟩ = some (.int .i64 b.r5) := Hoi.out.cell 7
                    have ko8 : wi.cell? ⟨zn6, 8, none⟩ = some (.slice A1n6 bs.length c1n6) := Hoi.out.cell 8
                    have lt_o : zn6 < wi.heap.size := Hoi.out.lt
                    go_wp2_with (at_builtin; go_loud (refine wpList_clear_run _ rfl _ _ rfl _ rfl hclr ?_))
                    refine (same_same b A1n6 (some ⟨E0, oo, none⟩) c1n6 c bs _ (HPi.out.up (zg)) (HAi.out.up (zg)) h8').mono ?_
                    rintro e wj ⟨rfl, hbj⟩
                    have Hbj := Lib.hid (Holds.up (by have h := Hbi.out; exact zp : Holds _ (w.heap.size) 25 #[.int .i64 b.cool, .int .i64 b.gangs, .int .i64 b.r0, .int .i64 b.r1, .int .i64 b.r2, .int .i64 b.r3, .int .i64 b.r4, .int .i64 b.r5, .slice (some ⟨E0, oo, none⟩) bs.length c]) hbj)
                    have Hoj := Lib.hid (Holds.up (by have h := Hoi.out; exact zp : Holds _ (zn6) 25 #[.int .i64 b.cool, .int .i64 b.gangs, .int .i64 b.r0, .int .i64 b.r1, .int .i64 b.r2, .int .i64 b.r3, .int .i64 b.r4, .int .i64 b.r5, .slice A1n6 bs.length c1n6]) hbj)
                    have HSj : Hid (Below wi.heap.size wi wj) := Lib.hid (Below.trans (zg) (hbj.mono (by first | exact Nat.le_refl _ | omega | (simp; done) | (simp; omega))))
                    have HBj : Hid (Below w.heap.size w wj) := Lib.hid (HBi.out.trans (HSj.out.mono hsi))
                    have hsj := HBj.out.size
                    have hstj := HSj.out.size
                    have HAj := Lib.hid (HAi.out.up HSj.out)
                    have HPj := Lib.hid (HPi.out.up HSj.out)
                    clear hbj
                    clear kb0 kb1 kb2 kb3 kb4 kb5 kb6 kb7 kb8 lt_b ko0 ko1 ko2 ko3 ko4 ko5 ko6 ko7 ko8 lt_o
                    go_wp2_with fail
                    refine (awake_any _).mono ?_
                    rintro e w40 ⟨rfl, hb40⟩
                    go_wp2_with fail
                    go_ret
                    exact ⟨rfl, HBj.out.trans (hb40.mono hsj)⟩
                · have HV : Hid (decide (min x.hi hi < max x.lo lo) = false) := Lib.hid (by rw [HPP.out, HQQ.out]; exact decide_eq_false hcl)
                  have hcl' : p ≤ q := by omega
                  as_aux_lemma =>
                    have kb0 : wd.cell? ⟨w.heap.size, 0, none⟩ = some (.int .i64 b.cool) := Hbd.out.cell 0
                    have kb1 : wd.cell? ⟨w.heap.size, 1, none⟩ = some (.int .i64 b.gangs) := Hbd.out.cell 1
                    have kb2 : wd.cell? ⟨w.heap.size, 2, none⟩ = some (.int .i64 b.r0) := Hbd.out.cell 2
                    have kb3 : wd.cell? ⟨w.heap.size, 3, none⟩ = some (.int .i64 b.r1) := Hbd.out.cell 3
                    have kb4 : wd.cell? ⟨w.heap.size, 4, none⟩ = some (.int .i64 b.r2) := Hbd.out.cell 4
                    have kb5 : wd.cell? ⟨w.heap.size, 5, none⟩ = some (.int .i64 b.r3) := Hbd.out.cell 5
                    have kb6 : wd.cell? ⟨w.heap.size, 6, none⟩ = some (.int .i64 b.r4) := Hbd.out.cell 6
                    have kb7 : wd.cell? ⟨w.heap.size, 7, none⟩ = some (.int .i64 b.r5) := Hbd.out.cell 7
                    have kb8 : wd.cell? ⟨w.heap.size, 8, none⟩ = some (.slice (some ⟨E0, oo, none⟩) bs.length c) := Hbd.out.cell 8
                    have lt_b : w.heap.size < wd.heap.size := Hbd.out.lt
                    go_wp2_with fail
                    refine (Own_any b (some ⟨E0, oo, none⟩) c bs _ (HAd.out.up (zg)) h8' HAN.out).mono ?_
                    rintro e wu ⟨A9, c9, rfl, hown, hbu⟩
                    have Hbu := Lib.hid (Holds.up (by have h := Hbd.out; exact zp : Holds _ (w.heap.size) 25 #[.int .i64 b.cool, .int .i64 b.gangs, .int .i64 b.r0, .int .i64 b.r1, .int .i64 b.r2, .int .i64 b.r3, .int .i64 b.r4, .int .i64 b.r5, .slice (some ⟨E0, oo, none⟩) bs.length c]) hbu)
                    have Hdu := Lib.hid (Holds.up (by have h := Hdd.out; exact zp : Holds _ (w.heap.size + 1) 27 #[.int .i64 lo, .int .i64 hi]) hbu)
                    have Hou := Lib.hid (Holds.up (by have h := Hod.out; exact zp : Holds _ (zn6) 25 #[.int .i64 b.cool, .int .i64 b.gangs, .int .i64 b.r0, .int .i64 b.r1, .int .i64 b.r2, .int .i64 b.r3, .int .i64 b.r4, .int .i64 b.r5, .slice A1n6 bs.length c1n6]) hbu)
                    have Hxu := Lib.hid (Holds.up (by have h := Hxd.out; exact zp : Holds _ (zn7) 33 #[.int .i64 b.cool, .int .i64 b.gangs, .int .i64 b.r0, .int .i64 b.r1, .int .i64 b.r2, .int .i64 b.r3, .int .i64 b.r4, .int .i64 b.r5, .slice A2n7 bs.length c2n7]) hbu)
                    have Hsu := Lib.hid (Holds.up (by have h := Hsd.out; exact zp : Holds _ (wc.heap.size) 27 #[.int .i64 r0, .int .i64 r1]) hbu)
                    have Hyu := Lib.hid (Holds.up (by have h := Hyd.out; exact zp : Holds _ (wc.heap.size + 1 + 1) 39 #[.int .i64 x.warm, .int .i64 x.mark, .int .i64 (l : Int), .int .i64 (m : Int)]) hbu)
                    have Hzu := Lib.hid (Holds.up (by have h := Hzd.out; exact zp : Holds _ (wc.heap.size + 1) 25 #[.int .i64 0, .int .i64 0, .int .i64 0, .int .i64 0, .int .i64 0, .int .i64 0, .int .i64 0, .int .i64 0, .slice none 0 0]) hbu)
                    have HSu : Hid (Below wd.heap.size wd wu) := Lib.hid (Below.trans (zg) (hbu.mono (by first | exact Nat.le_refl _ | omega | (simp; done) | (simp; omega))))
                    have HBu : Hid (Below w.heap.size w wu) := Lib.hid (HBd.out.trans (HSu.out.mono hsd))
                    have hsu := HBu.out.size
                    have hstu := HSu.out.size
                    have HAu := Lib.hid (HAd.out.up HSu.out)
                    have HPu := Lib.hid (HPd.out.up HSu.out)
                    have HMu := Lib.hid (HMd.out.up HSu.out)
                    clear hbu
                    have HOWu : Hid (OwnBins wu wd.heap.size 39 (.slice A9 bs.length c9) bs) := Lib.hid hown
                    clear hown
                    clear ko0 ko1 ko2 ko3 ko4 ko5 ko6 ko7 ko8 lt_o kd0 kd1 lt_d ky0 ky1 ky2 ky3 lt_y kb0 kb1 kb2 kb3 kb4 kb5 kb6 kb7 kb8 lt_b
                    obtain ⟨w6, hw6⟩ : ∃ z, z = wu.setRow (wc.heap.size + 1) #[.int .i64 b.cool, .int .i64 b.gangs, .int .i64 b.r0, .int .i64 b.r1, .int .i64 b.r2, .int .i64 b.r3, .int .i64 b.r4, .int .i64 b.r5, .slice A9 bs.length c9] := ⟨_, rfl⟩
                    have hrun6 := store_barn wu (wc.heap.size + 1) (.int .i64 0) (.int .i64 0) (.int .i64 0) (.int .i64 0) (.int .i64 0) (.int .i64 0) (.int .i64 0) (.int .i64 0) (.slice none 0 0) (.int .i64 b.cool) (.int .i64 b.gangs) (.int .i64 b.r0) (.int .i64 b.r1) (.int .i64 b.r2) (.int .i64 b.r3) (.int .i64 b.r4) (.int .i64 b.r5) (.slice A9 bs.length c9) Hzu.out
                    rw [← hw6] at hrun6
                    have HOW6 : OwnBins w6 wd.heap.size 39 (.slice A9 bs.length c9) bs := by rw [hw6]; exact own_row HOWu.out Hzu.out (by decide) _
                    obtain ⟨g9, wv, eA9, hg9, hrun7, hBA7, -, hb7⟩ := own_store (max x.lo lo) (min x.hi hi) HOW6 HX.out
                    subst eA9
                    rw [HPP.out, HQQ.out] at hrun7
                    have ltz : wc.heap.size + 1 < wd.heap.size := Hzd.out.lt
                    have Hz6 : Holds w6 (wc.heap.size + 1) 25 #[.int .i64 b.cool, .int .i64 b.gangs, .int .i64 b.r0, .int .i64 b.r1, .int .i64 b.r2, .int .i64 b.r3, .int .i64 b.r4, .int .i64 b.r5, .slice (some ⟨g9, 0, none⟩) bs.length c9] := by rw [hw6]; exact setRow_heap wu _ _ _ _ _ Hzu.out
                    have oth : ∀ (B : Nat) (t : TypeId) (cs : Array Value), B ≠ wc.heap.size + 1 → Holds wu B t cs → Holds w6 B t cs := fun B t cs hne h => by rw [hw6]; exact (setRow_other wu _ B _ hne).trans h
                    have Hd6 := oth _ _ _ (by have := Hdc.out.lt; omega) Hdu.out
                    have Hy6 := oth _ _ _ (by omega) Hyu.out
                    have Hs6 := oth _ _ _ (by omega) Hsu.out
                    have HQ6 : Below wc.heap.size wc w6 := by rw [hw6]; exact below_row (HSd.out.trans (HSu.out.mono hstd)) (by omega) _
                    have HQ7 : Below wc.heap.size wc wv := HQ6.trans (hb7.mono hstd)
                    have HQV := Lib.hid HQ7
                    have HBv := Lib.hid (HBc.out.trans (HQ7.mono hsc))
                    have hsv := HBv.out.size
                    have Hbv := Lib.hid (Hbc.out.up HQ7)
                    have Hdv := Lib.hid (Hdc.out.up HQ7)
                    have Hov := Lib.hid (Hoc.out.up HQ7)
                    have Hxv := Lib.hid (Hxc.out.up HQ7)
                    have HAv := Lib.hid (HAc.out.up HQ7)
                    have HPv := Lib.hid (HPc.out.up HQ7)
                    have HMv := Lib.hid (HMc.out.up HQ7)
                    have Hzv := Lib.hid (Hz6.low hb7 ltz)
                    have Hsv := Lib.hid (Hs6.low hb7 (by omega))
                    have Hyv := Lib.hid (Hy6.low hb7 (by omega))
                    have HWv := Lib.hid hBA7
                    have kz68 : w6.cell? ⟨wc.heap.size + 1, 8, none⟩ = some (.slice (some ⟨g9, 0, none⟩) bs.length c9) := Hz6.cell 8
                    have kd60 : w6.cell? ⟨w.heap.size + 1, 0, none⟩ = some (.int .i64 lo) := Hd6.cell 0
                    have kd61 : w6.cell? ⟨w.heap.size + 1, 1, none⟩ = some (.int .i64 hi) := Hd6.cell 1
                    have ky62 : w6.cell? ⟨wc.heap.size + 1 + 1, 2, none⟩ = some (.int .i64 (l : Int)) := Hy6.cell 2
                    have ky63 : w6.cell? ⟨wc.heap.size + 1 + 1, 3, none⟩ = some (.int .i64 (m : Int)) := Hy6.cell 3
                    clear hw6 HOW6 oth HQ6 HQ7 hBA7 Hz6 Hd6 Hy6 Hs6
                    have ko0 : wv.cell? ⟨zn6, 0, none⟩ = some (.int .i64 b.cool) := Hov.out.cell 0
                    have ko1 : wv.cell? ⟨zn6, 1, none⟩ = some (.int .i64 b.gangs) := Hov.out.cell 1
                    have ko2 : wv.cell? ⟨zn6, 2, none⟩ = some (.int .i64 b.r0) := Hov.out.cell 2
                    have ko3 : wv.cell? ⟨zn6, 3, none⟩ = some (.int .i64 b.r1) := Hov.out.cell 3
                    have ko4 : wv.cell? ⟨zn6, 4, none⟩ = some (.int .i64 b.r2) := Hov.out.cell 4
                    have ko5 : wv.cell? ⟨zn6, 5, none⟩ = some (.int .i64 b.r3) := Hov.out.cell 5
                    have ko6 : wv.cell? ⟨zn6, 6, none⟩ = some (.int .i64 b.r4) := Hov.out.cell 6
                    have ko7 : wv.cell? ⟨zn6, 7, none⟩ = some (.int .i64 b.r5) := Hov.out.cell 7
                    have ko8 : wv.cell? ⟨zn6, 8, none⟩ = some (.slice A1n6 bs.length c1n6) := Hov.out.cell 8
                    have lt_o : zn6 < wv.heap.size := Hov.out.lt
                    go_wp2_with (first | (refine wpList_store_run _ rfl 25 _ _ rfl ⟨wc.heap.size + 1, 0, none⟩ rfl rfl hrun6 ?_) | (refine wpList_store_run _ rfl 27 _ _ rfl ⟨g9, k * 4 + 2, none⟩ rfl rfl hrun7 ?_))
                    refine (Rises_ok b A1n6 c1n6 bs _ (HPv.out.up (zg)) h8' HG.out k x HX.out).mono ?_
                    rw [HR0.out, HR1.out]
                    rintro e we ⟨rfl, hbe⟩
                    have Hbe := Lib.hid (Holds.up (by have h := Hbv.out; exact zp : Holds _ (w.heap.size) 25 #[.int .i64 b.cool, .int .i64 b.gangs, .int .i64 b.r0, .int .i64 b.r1, .int .i64 b.r2, .int .i64 b.r3, .int .i64 b.r4, .int .i64 b.r5, .slice (some ⟨E0, oo, none⟩) bs.length c]) hbe)
                    have Hde := Lib.hid (Holds.up (by have h := Hdv.out; exact zp : Holds _ (w.heap.size + 1) 27 #[.int .i64 lo, .int .i64 hi]) hbe)
                    have Hoe := Lib.hid (Holds.up (by have h := Hov.out; exact zp : Holds _ (zn6) 25 #[.int .i64 b.cool, .int .i64 b.gangs, .int .i64 b.r0, .int .i64 b.r1, .int .i64 b.r2, .int .i64 b.r3, .int .i64 b.r4, .int .i64 b.r5, .slice A1n6 bs.length c1n6]) hbe)
                    have Hxe := Lib.hid (Holds.up (by have h := Hxv.out; exact zp : Holds _ (zn7) 33 #[.int .i64 b.cool, .int .i64 b.gangs, .int .i64 b.r0, .int .i64 b.r1, .int .i64 b.r2, .int .i64 b.r3, .int .i64 b.r4, .int .i64 b.r5, .slice A2n7 bs.length c2n7]) hbe)
                    have Hse := Lib.hid (Holds.up (by have h := Hsv.out; exact zp : Holds _ (wc.heap.size) 27 #[.int .i64 r0, .int .i64 r1]) hbe)
                    have Hye := Lib.hid (Holds.up (by have h := Hyv.out; exact zp : Holds _ (wc.heap.size + 1 + 1) 39 #[.int .i64 x.warm, .int .i64 x.mark, .int .i64 (l : Int), .int .i64 (m : Int)]) hbe)
                    have Hze := Lib.hid (Holds.up (by have h := Hzv.out; exact zp : Holds _ (wc.heap.size + 1) 25 #[.int .i64 b.cool, .int .i64 b.gangs, .int .i64 b.r0, .int .i64 b.r1, .int .i64 b.r2, .int .i64 b.r3, .int .i64 b.r4, .int .i64 b.r5, .slice (some ⟨g9, 0, none⟩) bs.length c9]) hbe)
                    have HSe : Hid (Below wv.heap.size wv we) := Lib.hid (Below.trans (zg) (hbe.mono (by first | exact Nat.le_refl _ | omega | (simp; done) | (simp; omega))))
                    have HBe : Hid (Below w.heap.size w we) := Lib.hid (HBv.out.trans (HSe.out.mono hsv))
                    have hse := HBe.out.size
                    have hste := HSe.out.size
                    have HAe := Lib.hid (HAv.out.up HSe.out)
                    have HPe := Lib.hid (HPv.out.up HSe.out)
                    have HMe := Lib.hid (HMv.out.up HSe.out)
                    have HWe := Lib.hid (HWv.out.up HSe.out)
                    clear hbe
                    clear ko0 ko1 ko2 ko3 ko4 ko5 ko6 ko7 ko8 lt_o
                    have ko0 : we.cell? ⟨zn6, 0, none⟩ = some (.int .i64 b.cool) := Hoe.out.cell 0
                    have ko1 : we.cell? ⟨zn6, 1, none⟩ = some (.int .i64 b.gangs) := Hoe.out.cell 1
                    have ko2 : we.cell? ⟨zn6, 2, none⟩ = some (.int .i64 b.r0) := Hoe.out.cell 2
                    have ko3 : we.cell? ⟨zn6, 3, none⟩ = some (.int .i64 b.r1) := Hoe.out.cell 3
                    have ko4 : we.cell? ⟨zn6, 4, none⟩ = some (.int .i64 b.r2) := Hoe.out.cell 4
                    have ko5 : we.cell? ⟨zn6, 5, none⟩ = some (.int .i64 b.r3) := Hoe.out.cell 5
                    have ko6 : we.cell? ⟨zn6, 6, none⟩ = some (.int .i64 b.r4) := Hoe.out.cell 6
                    have ko7 : we.cell? ⟨zn6, 7, none⟩ = some (.int .i64 b.r5) := Hoe.out.cell 7
                    have ko8 : we.cell? ⟨zn6, 8, none⟩ = some (.slice A1n6 bs.length c1n6) := Hoe.out.cell 8
                    have lt_o : zn6 < we.heap.size := Hoe.out.lt
                    go_wp2_with fail
                    refine (Left_ok b A1n6 c1n6 bs _ (HPe.out.up (zg)) h8' HG.out k x HX.out).mono ?_
                    rw [HD1.out]
                    rintro e wf ⟨rfl, hbf⟩
                    have Hbf := Lib.hid (Holds.up (by have h := Hbe.out; exact zp : Holds _ (w.heap.size) 25 #[.int .i64 b.cool, .int .i64 b.gangs, .int .i64 b.r0, .int .i64 b.r1, .int .i64 b.r2, .int .i64 b.r3, .int .i64 b.r4, .int .i64 b.r5, .slice (some ⟨E0, oo, none⟩) bs.length c]) hbf)
                    have Hdf := Lib.hid (Holds.up (by have h := Hde.out; exact zp : Holds _ (w.heap.size + 1) 27 #[.int .i64 lo, .int .i64 hi]) hbf)
                    have Hof := Lib.hid (Holds.up (by have h := Hoe.out; exact zp : Holds _ (zn6) 25 #[.int .i64 b.cool, .int .i64 b.gangs, .int .i64 b.r0, .int .i64 b.r1, .int .i64 b.r2, .int .i64 b.r3, .int .i64 b.r4, .int .i64 b.r5, .slice A1n6 bs.length c1n6]) hbf)
                    have Hxf := Lib.hid (Holds.up (by have h := Hxe.out; exact zp : Holds _ (zn7) 33 #[.int .i64 b.cool, .int .i64 b.gangs, .int .i64 b.r0, .int .i64 b.r1, .int .i64 b.r2, .int .i64 b.r3, .int .i64 b.r4, .int .i64 b.r5, .slice A2n7 bs.length c2n7]) hbf)
                    have Hsf := Lib.hid (Holds.up (by have h := Hse.out; exact zp : Holds _ (wc.heap.size) 27 #[.int .i64 r0, .int .i64 r1]) hbf)
                    have Hyf := Lib.hid (Holds.up (by have h := Hye.out; exact zp : Holds _ (wc.heap.size + 1 + 1) 39 #[.int .i64 x.warm, .int .i64 x.mark, .int .i64 (l : Int), .int .i64 (m : Int)]) hbf)
                    have Hzf := Lib.hid (Holds.up (by have h := Hze.out; exact zp : Holds _ (wc.heap.size + 1) 25 #[.int .i64 b.cool, .int .i64 b.gangs, .int .i64 b.r0, .int .i64 b.r1, .int .i64 b.r2, .int .i64 b.r3, .int .i64 b.r4, .int .i64 b.r5, .slice (some ⟨g9, 0, none⟩) bs.length c9]) hbf)
                    have Htf := Lib.hid (Holds.up (zp : Holds _ (we.heap.size) 27 #[.int .i64 r0, .int .i64 r1]) hbf)
                    have HSf : Hid (Below we.heap.size we wf) := Lib.hid (Below.trans (zg) (hbf.mono (by first | exact Nat.le_refl _ | omega | (simp; done) | (simp; omega))))
                    have HBf : Hid (Below w.heap.size w wf) := Lib.hid (HBe.out.trans (HSf.out.mono hse))
                    have hsf := HBf.out.size
                    have hstf := HSf.out.size
                    have HAf := Lib.hid (HAe.out.up HSf.out)
                    have HPf := Lib.hid (HPe.out.up HSf.out)
                    have HMf := Lib.hid (HMe.out.up HSf.out)
                    have HWf := Lib.hid (HWe.out.up HSf.out)
                    clear hbf
                    clear ko0 ko1 ko2 ko3 ko4 ko5 ko6 ko7 ko8 lt_o
                    have ko0 : wf.cell? ⟨zn6, 0, none⟩ = some (.int .i64 b.cool) := Hof.out.cell 0
                    have ko1 : wf.cell? ⟨zn6, 1, none⟩ = some (.int .i64 b.gangs) := Hof.out.cell 1
                    have ko2 : wf.cell? ⟨zn6, 2, none⟩ = some (.int .i64 b.r0) := Hof.out.cell 2
                    have ko3 : wf.cell? ⟨zn6, 3, none⟩ = some (.int .i64 b.r1) := Hof.out.cell 3
                    have ko4 : wf.cell? ⟨zn6, 4, none⟩ = some (.int .i64 b.r2) := Hof.out.cell 4
                    have ko5 : wf.cell? ⟨zn6, 5, none⟩ = some (.int .i64 b.r3) := Hof.out.cell 5
                    have ko6 : wf.cell? ⟨zn6, 6, none⟩ = some (.int .i64 b.r4) := Hof.out.cell 6
                    have ko7 : wf.cell? ⟨zn6, 7, none⟩ = some (.int .i64 b.r5) := Hof.out.cell 7
                    have ko8 : wf.cell? ⟨zn6, 8, none⟩ = some (.slice A1n6 bs.length c1n6) := Hof.out.cell 8
                    have lt_o : zn6 < wf.heap.size := Hof.out.lt
                    go_wp2_with fail
                    refine (Lasts_ok b A1n6 c1n6 bs _ (HPf.out.up (zg)) h8' HG.out k x HX.out).mono ?_
                    rw [HD2.out]
                    rintro e wg ⟨rfl, hbg⟩
                    have Hbg := Lib.hid (Holds.up (by have h := Hbf.out; exact zp : Holds _ (w.heap.size) 25 #[.int .i64 b.cool, .int .i64 b.gangs, .int .i64 b.r0, .int .i64 b.r1, .int .i64 b.r2, .int .i64 b.r3, .int .i64 b.r4, .int .i64 b.r5, .slice (some ⟨E0, oo, none⟩) bs.length c]) hbg)
                    have Hdg := Lib.hid (Holds.up (by have h := Hdf.out; exact zp : Holds _ (w.heap.size + 1) 27 #[.int .i64 lo, .int .i64 hi]) hbg)
                    have Hog := Lib.hid (Holds.up (by have h := Hof.out; exact zp : Holds _ (zn6) 25 #[.int .i64 b.cool, .int .i64 b.gangs, .int .i64 b.r0, .int .i64 b.r1, .int .i64 b.r2, .int .i64 b.r3, .int .i64 b.r4, .int .i64 b.r5, .slice A1n6 bs.length c1n6]) hbg)
                    have Hxg := Lib.hid (Holds.up (by have h := Hxf.out; exact zp : Holds _ (zn7) 33 #[.int .i64 b.cool, .int .i64 b.gangs, .int .i64 b.r0, .int .i64 b.r1, .int .i64 b.r2, .int .i64 b.r3, .int .i64 b.r4, .int .i64 b.r5, .slice A2n7 bs.length c2n7]) hbg)
                    have Hsg := Lib.hid (Holds.up (by have h := Hsf.out; exact zp : Holds _ (wc.heap.size) 27 #[.int .i64 r0, .int .i64 r1]) hbg)
                    have Hyg := Lib.hid (Holds.up (by have h := Hyf.out; exact zp : Holds _ (wc.heap.size + 1 + 1) 39 #[.int .i64 x.warm, .int .i64 x.mark, .int .i64 (l : Int), .int .i64 (m : Int)]) hbg)
                    have Hzg := Lib.hid (Holds.up (by have h := Hzf.out; exact zp : Holds _ (wc.heap.size + 1) 25 #[.int .i64 b.cool, .int .i64 b.gangs, .int .i64 b.r0, .int .i64 b.r1, .int .i64 b.r2, .int .i64 b.r3, .int .i64 b.r4, .int .i64 b.r5, .slice (some ⟨g9, 0, none⟩) bs.length c9]) hbg)
                    have Htg := Lib.hid (Holds.up (by have h := Htf.out; exact zp : Holds _ (we.heap.size) 27 #[.int .i64 r0, .int .i64 r1]) hbg)
                    have HSg : Hid (Below wf.heap.size wf wg) := Lib.hid (Below.trans (zg) (hbg.mono (by first | exact Nat.le_refl _ | omega | (simp; done) | (simp; omega))))
                    have HBg : Hid (Below w.heap.size w wg) := Lib.hid (HBf.out.trans (HSg.out.mono hsf))
                    have hsg := HBg.out.size
                    have hstg := HSg.out.size
                    have HAg := Lib.hid (HAf.out.up HSg.out)
                    have HPg := Lib.hid (HPf.out.up HSg.out)
                    have HMg := Lib.hid (HMf.out.up HSg.out)
                    have HWg := Lib.hid (HWf.out.up HSg.out)
                    clear hbg
                    clear ko0 ko1 ko2 ko3 ko4 ko5 ko6 ko7 ko8 lt_o
                    have ko0 : wg.cell? ⟨zn6, 0, none⟩ = some (.int .i64 b.cool) := Hog.out.cell 0
                    have ko1 : wg.cell? ⟨zn6, 1, none⟩ = some (.int .i64 b.gangs) := Hog.out.cell 1
                    have ko2 : wg.cell? ⟨zn6, 2, none⟩ = some (.int .i64 b.r0) := Hog.out.cell 2
                    have ko3 : wg.cell? ⟨zn6, 3, none⟩ = some (.int .i64 b.r1) := Hog.out.cell 3
                    have ko4 : wg.cell? ⟨zn6, 4, none⟩ = some (.int .i64 b.r2) := Hog.out.cell 4
                    have ko5 : wg.cell? ⟨zn6, 5, none⟩ = some (.int .i64 b.r3) := Hog.out.cell 5
                    have ko6 : wg.cell? ⟨zn6, 6, none⟩ = some (.int .i64 b.r4) := Hog.out.cell 6
                    have ko7 : wg.cell? ⟨zn6, 7, none⟩ = some (.int .i64 b.r5) := Hog.out.cell 7
                    have ko8 : wg.cell? ⟨zn6, 8, none⟩ = some (.slice A1n6 bs.length c1n6) := Hog.out.cell 8
                    have lt_o : zn6 < wg.heap.size := Hog.out.lt
                    have kd0 : wg.cell? ⟨w.heap.size + 1, 0, none⟩ = some (.int .i64 lo) := Hdg.out.cell 0
                    have kd1 : wg.cell? ⟨w.heap.size + 1, 1, none⟩ = some (.int .i64 hi) := Hdg.out.cell 1
                    have lt_d : w.heap.size + 1 < wg.heap.size := Hdg.out.lt
                    go_wp2_with fail
                    refine (Sample_ok b A1n6 c1n6 bs _ (HPg.out.up (zg)) h8' lo hi HG.out k x HX.out HC.out HO.out HV.out).mono ?_
                    rintro e wh ⟨B5, rfl, hB5, hle5, hbh⟩
                    have Hbh := Lib.hid (Holds.up (by have h := Hbg.out; exact zp : Holds _ (w.heap.size) 25 #[.int .i64 b.cool, .int .i64 b.gangs, .int .i64 b.r0, .int .i64 b.r1, .int .i64 b.r2, .int .i64 b.r3, .int .i64 b.r4, .int .i64 b.r5, .slice (some ⟨E0, oo, none⟩) bs.length c]) hbh)
                    have Hdh := Lib.hid (Holds.up (by have h := Hdg.out; exact zp : Holds _ (w.heap.size + 1) 27 #[.int .i64 lo, .int .i64 hi]) hbh)
                    have Hoh := Lib.hid (Holds.up (by have h := Hog.out; exact zp : Holds _ (zn6) 25 #[.int .i64 b.cool, .int .i64 b.gangs, .int .i64 b.r0, .int .i64 b.r1, .int .i64 b.r2, .int .i64 b.r3, .int .i64 b.r4, .int .i64 b.r5, .slice A1n6 bs.length c1n6]) hbh)
                    have Hxh := Lib.hid (Holds.up (by have h := Hxg.out; exact zp : Holds _ (zn7) 33 #[.int .i64 b.cool, .int .i64 b.gangs, .int .i64 b.r0, .int .i64 b.r1, .int .i64 b.r2, .int .i64 b.r3, .int .i64 b.r4, .int .i64 b.r5, .slice A2n7 bs.length c2n7]) hbh)
                    have Hsh := Lib.hid (Holds.up (by have h := Hsg.out; exact zp : Holds _ (wc.heap.size) 27 #[.int .i64 r0, .int .i64 r1]) hbh)
                    have Hyh := Lib.hid (Holds.up (by have h := Hyg.out; exact zp : Holds _ (wc.heap.size + 1 + 1) 39 #[.int .i64 x.warm, .int .i64 x.mark, .int .i64 (l : Int), .int .i64 (m : Int)]) hbh)
                    have Hzh := Lib.hid (Holds.up (by have h := Hzg.out; exact zp : Holds _ (wc.heap.size + 1) 25 #[.int .i64 b.cool, .int .i64 b.gangs, .int .i64 b.r0, .int .i64 b.r1, .int .i64 b.r2, .int .i64 b.r3, .int .i64 b.r4, .int .i64 b.r5, .slice (some ⟨g9, 0, none⟩) bs.length c9]) hbh)
                    have Hth := Lib.hid (Holds.up (by have h := Htg.out; exact zp : Holds _ (we.heap.size) 27 #[.int .i64 r0, .int .i64 r1]) hbh)
                    have HSh : Hid (Below wg.heap.size wg wh) := Lib.hid (Below.trans (zg) (hbh.mono (by first | exact Nat.le_refl _ | omega | (simp; done) | (simp; omega))))
                    have HBh : Hid (Below w.heap.size w wh) := Lib.hid (HBg.out.trans (HSh.out.mono hsg))
                    have hsh := HBh.out.size
                    have hsth := HSh.out.size
                    have HAh := Lib.hid (HAg.out.up HSh.out)
                    have HPh := Lib.hid (HPg.out.up HSh.out)
                    have HMh := Lib.hid (HMg.out.up HSh.out)
                    have HWh := Lib.hid (HWg.out.up HSh.out)
                    clear hbh
                    have HB5h := Lib.hid hB5
                    have HRBh := Lib.hid (row_of Bn.len hB5)
                    clear hB5
                    clear ko0 ko1 ko2 ko3 ko4 ko5 ko6 ko7 ko8 lt_o kd0 kd1 lt_d
                    have kt0 : wh.cell? ⟨we.heap.size, 0, none⟩ = some (.int .i64 r0) := Hth.out.cell 0
                    have kt1 : wh.cell? ⟨we.heap.size, 1, none⟩ = some (.int .i64 r1) := Hth.out.cell 1
                    have lt_t : we.heap.size < wh.heap.size := Hth.out.lt
                    have ks0 : wh.cell? ⟨wc.heap.size, 0, none⟩ = some (.int .i64 r0) := Hsh.out.cell 0
                    have ks1 : wh.cell? ⟨wc.heap.size, 1, none⟩ = some (.int .i64 r1) := Hsh.out.cell 1
                    have lt_s : wc.heap.size < wh.heap.size := Hsh.out.lt
                    have kz0 : wh.cell? ⟨wc.heap.size + 1, 0, none⟩ = some (.int .i64 b.cool) := Hzh.out.cell 0
                    have kz1 : wh.cell? ⟨wc.heap.size + 1, 1, none⟩ = some (.int .i64 b.gangs) := Hzh.out.cell 1
                    have kz2 : wh.cell? ⟨wc.heap.size + 1, 2, none⟩ = some (.int .i64 b.r0) := Hzh.out.cell 2
                    have kz3 : wh.cell? ⟨wc.heap.size + 1, 3, none⟩ = some (.int .i64 b.r1) := Hzh.out.cell 3
                    have kz4 : wh.cell? ⟨wc.heap.size + 1, 4, none⟩ = some (.int .i64 b.r2) := Hzh.out.cell 4
                    have kz5 : wh.cell? ⟨wc.heap.size + 1, 5, none⟩ = some (.int .i64 b.r3) := Hzh.out.cell 5
                    have kz6 : wh.cell? ⟨wc.heap.size + 1, 6, none⟩ = some (.int .i64 b.r4) := Hzh.out.cell 6
                    have kz7 : wh.cell? ⟨wc.heap.size + 1, 7, none⟩ = some (.int .i64 b.r5) := Hzh.out.cell 7
                    have kz8 : wh.cell? ⟨wc.heap.size + 1, 8, none⟩ = some (.slice (some ⟨g9, 0, none⟩) bs.length c9) := Hzh.out.cell 8
                    have lt_z : wc.heap.size + 1 < wh.heap.size := Hzh.out.lt
                    have hneq := neq_span r0 r1
                    have hss := fun w' h1 h2 => same_same b (some ⟨B5, 0, none⟩) (some ⟨g9, 0, none⟩) bs.length c9 (bs.set k ⟨x.warm, x.mark, max x.lo lo, min x.hi hi⟩) w' h1 h2 (by rw [List.length_set]; exact h8')
                    rw [List.length_set] at hss
                    have HSS := Lib.hid hss
                    clear hss
                    go_wp2_with fail
                    refine (HSS.out _ (HRBh.out.up (zg)) (HWh.out.up (zg))).mono ?_
                    rintro e wi ⟨rfl, hbi⟩
                    have Hbi := Lib.hid (Holds.up (by have h := Hbh.out; exact zp : Holds _ (w.heap.size) 25 #[.int .i64 b.cool, .int .i64 b.gangs, .int .i64 b.r0, .int .i64 b.r1, .int .i64 b.r2, .int .i64 b.r3, .int .i64 b.r4, .int .i64 b.r5, .slice (some ⟨E0, oo, none⟩) bs.length c]) hbi)
                    have Hdi := Lib.hid (Holds.up (by have h := Hdh.out; exact zp : Holds _ (w.heap.size + 1) 27 #[.int .i64 lo, .int .i64 hi]) hbi)
                    have Hoi := Lib.hid (Holds.up (by have h := Hoh.out; exact zp : Holds _ (zn6) 25 #[.int .i64 b.cool, .int .i64 b.gangs, .int .i64 b.r0, .int .i64 b.r1, .int .i64 b.r2, .int .i64 b.r3, .int .i64 b.r4, .int .i64 b.r5, .slice A1n6 bs.length c1n6]) hbi)
                    have Hxi := Lib.hid (Holds.up (by have h := Hxh.out; exact zp : Holds _ (zn7) 33 #[.int .i64 b.cool, .int .i64 b.gangs, .int .i64 b.r0, .int .i64 b.r1, .int .i64 b.r2, .int .i64 b.r3, .int .i64 b.r4, .int .i64 b.r5, .slice A2n7 bs.length c2n7]) hbi)
                    have Hsi := Lib.hid (Holds.up (by have h := Hsh.out; exact zp : Holds _ (wc.heap.size) 27 #[.int .i64 r0, .int .i64 r1]) hbi)
                    have Hyi := Lib.hid (Holds.up (by have h := Hyh.out; exact zp : Holds _ (wc.heap.size + 1 + 1) 39 #[.int .i64 x.warm, .int .i64 x.mark, .int .i64 (l : Int), .int .i64 (m : Int)]) hbi)
                    have Hzi := Lib.hid (Holds.up (by have h := Hzh.out; exact zp : Holds _ (wc.heap.size + 1) 25 #[.int .i64 b.cool, .int .i64 b.gangs, .int .i64 b.r0, .int .i64 b.r1, .int .i64 b.r2, .int .i64 b.r3, .int .i64 b.r4, .int .i64 b.r5, .slice (some ⟨g9, 0, none⟩) bs.length c9]) hbi)
                    have Hti := Lib.hid (Holds.up (by have h := Hth.out; exact zp : Holds _ (we.heap.size) 27 #[.int .i64 r0, .int .i64 r1]) hbi)
                    have Hci := Lib.hid (Holds.up (zp : Holds _ (wh.heap.size) 25 #[.int .i64 b.cool, .int .i64 b.gangs, .int .i64 b.r0, .int .i64 b.r1, .int .i64 b.r2, .int .i64 b.r3, .int .i64 b.r4, .int .i64 b.r5, .slice (some ⟨B5, 0, none⟩) bs.length bs.length]) hbi)
                    have HSi : Hid (Below wh.heap.size wh wi) := Lib.hid (Below.trans (zg) (hbi.mono (by first | exact Nat.le_refl _ | omega | (simp; done) | (simp; omega))))
                    have HBi : Hid (Below w.heap.size w wi) := Lib.hid (HBh.out.trans (HSi.out.mono hsh))
                    have hsi := HBi.out.size
                    have hsti := HSi.out.size
                    have HAi := Lib.hid (HAh.out.up HSi.out)
                    have HPi := Lib.hid (HPh.out.up HSi.out)
                    have HMi := Lib.hid (HMh.out.up HSi.out)
                    have HWi := Lib.hid (HWh.out.up HSi.out)
                    have HB5i := Lib.hid (HB5h.out.up HSi.out)
                    have HRBi := Lib.hid (HRBh.out.up HSi.out)
                    clear hbi
                    clear kt0 kt1 lt_t ks0 ks1 lt_s kz0 kz1 kz2 kz3 kz4 kz5 kz6 kz7 kz8 lt_z
                    have kc0 : wi.cell? ⟨wh.heap.size, 0, none⟩ = some (.int .i64 b.cool) := Hci.out.cell 0
                    have kc1 : wi.cell? ⟨wh.heap.size, 1, none⟩ = some (.int .i64 b.gangs) := Hci.out.cell 1
                    have kc2 : wi.cell? ⟨wh.heap.size, 2, none⟩ = some (.int .i64 b.r0) := Hci.out.cell 2
                    have kc3 : wi.cell? ⟨wh.heap.size, 3, none⟩ = some (.int .i64 b.r1) := Hci.out.cell 3
                    have kc4 : wi.cell? ⟨wh.heap.size, 4, none⟩ = some (.int .i64 b.r2) := Hci.out.cell 4
                    have kc5 : wi.cell? ⟨wh.heap.size, 5, none⟩ = some (.int .i64 b.r3) := Hci.out.cell 5
                    have kc6 : wi.cell? ⟨wh.heap.size, 6, none⟩ = some (.int .i64 b.r4) := Hci.out.cell 6
                    have kc7 : wi.cell? ⟨wh.heap.size, 7, none⟩ = some (.int .i64 b.r5) := Hci.out.cell 7
                    have kc8 : wi.cell? ⟨wh.heap.size, 8, none⟩ = some (.slice (some ⟨B5, 0, none⟩) bs.length bs.length) := Hci.out.cell 8
                    have lt_c : wh.heap.size < wi.heap.size := Hci.out.lt
                    obtain ⟨wk, hclr, hgr⟩ := run_clear_bins wi 0 B5 bs.length _ HB5i.out (by rw [List.length_set]; omega)
                    rw [List.length_set] at hclr
                    have HVi := HSh.out.trans (HSi.out.mono hsth)
                    have HVk := HVi.grown hgr HVi.size (fun k hk => by cases hk; exact hle5)
                    have HBk := Lib.hid (HBg.out.trans (HVk.mono hsg))
                    have hsk := HBk.out.size
                    have HKV := Lib.hid HVk
                    clear hgr HVi HVk
                    have Hbk := Lib.hid (Hbg.out.up HKV.out)
                    have Hok := Lib.hid (Hog.out.up HKV.out)
                    have HAk := Lib.hid (HAg.out.up HKV.out)
                    have HPk := Lib.hid (HPg.out.up HKV.out)
                    have kb0 : wk.cell? ⟨w.heap.size, 0, none⟩ = some (.int .i64 b.cool) := Hbk.out.cell 0
                    have kb1 : wk.cell? ⟨w.heap.size, 1, none⟩ = some (.int .i64 b.gangs) := Hbk.out.cell 1
                    have kb2 : wk.cell? ⟨w.heap.size, 2, none⟩ = some (.int .i64 b.r0) := Hbk.out.cell 2
                    have kb3 : wk.cell? ⟨w.heap.size, 3, none⟩ = some (.int .i64 b.r1) := Hbk.out.cell 3
                    have kb4 : wk.cell? ⟨w.heap.size, 4, none⟩ = some (.int .i64 b.r2) := Hbk.out.cell 4
                    have kb5 : wk.cell? ⟨w.heap.size, 5, none⟩ = some (.int .i64 b.r3) := Hbk.out.cell 5
                    have kb6 : wk.cell? ⟨w.heap.size, 6, none⟩ = some (.int .i64 b.r4) := Hbk.out.cell 6
                    have kb7 : wk.cell? ⟨w.heap.size, 7, none⟩ = some (.int .i64 b.r5) := Hbk.out.cell 7
                    have kb8 : wk.cell? ⟨w.heap.size, 8, none⟩ = some (.slice (some ⟨E0, oo, none⟩) bs.length c) := Hbk.out.cell 8
                    have lt_b : w.heap.size < wk.heap.size := Hbk.out.lt
                    have ko0 : wk.cell? ⟨zn6, 0, none⟩ = some (.int .i64 b.cool) := Hok.out.cell 0
                    have ko1 : wk.cell? ⟨zn6, 1, none⟩ = some (.int .i64 b.gangs) := Hok.out.cell 1
                    have ko2 : wk.cell? ⟨zn6, 2, none⟩ = some (.int .i64 b.r0) := Hok.out.cell 2
                    have ko3 : wk.cell? ⟨zn6, 3, none⟩ = some (.int .i64 b.r1) := Hok.out.cell 3
                    have ko4 : wk.cell? ⟨zn6, 4, none⟩ = some (.int .i64 b.r2) := Hok.out.cell 4
                    have ko5 : wk.cell? ⟨zn6, 5, none⟩ = some (.int .i64 b.r3) := Hok.out.cell 5
                    have ko6 : wk.cell? ⟨zn6, 6, none⟩ = some (.int .i64 b.r4) := Hok.out.cell 6
                    have ko7 : wk.cell? ⟨zn6, 7, none⟩ = some (.int .i64 b.r5) := Hok.out.cell 7
                    have ko8 : wk.cell? ⟨zn6, 8, none⟩ = some (.slice A1n6 bs.length c1n6) := Hok.out.cell 8
                    have lt_o : zn6 < wk.heap.size := Hok.out.lt
                    go_wp2_with (at_builtin; go_loud (refine wpList_clear_run _ rfl _ _ rfl _ rfl hclr ?_))
                    refine (same_same b A1n6 (some ⟨E0, oo, none⟩) c1n6 c bs _ (HPk.out.up (zg)) (HAk.out.up (zg)) h8').mono ?_
                    rintro e wj ⟨rfl, hbj⟩
                    have Hbj := Lib.hid (Holds.up (by have h := Hbk.out; exact zp : Holds _ (w.heap.size) 25 #[.int .i64 b.cool, .int .i64 b.gangs, .int .i64 b.r0, .int .i64 b.r1, .int .i64 b.r2, .int .i64 b.r3, .int .i64 b.r4, .int .i64 b.r5, .slice (some ⟨E0, oo, none⟩) bs.length c]) hbj)
                    have Hoj := Lib.hid (Holds.up (by have h := Hok.out; exact zp : Holds _ (zn6) 25 #[.int .i64 b.cool, .int .i64 b.gangs, .int .i64 b.r0, .int .i64 b.r1, .int .i64 b.r2, .int .i64 b.r3, .int .i64 b.r4, .int .i64 b.r5, .slice A1n6 bs.length c1n6]) hbj)
                    have HSj : Hid (Below wk.heap.size wk wj) := Lib.hid (Below.trans (zg) (hbj.mono (by first | exact Nat.le_refl _ | omega | (simp; done) | (simp; omega))))
                    have HBj : Hid (Below w.heap.size w wj) := Lib.hid (HBk.out.trans (HSj.out.mono hsk))
                    have hsj := HBj.out.size
                    have hstj := HSj.out.size
                    have HAj := Lib.hid (HAk.out.up HSj.out)
                    have HPj := Lib.hid (HPk.out.up HSj.out)
                    clear hbj
                    clear kb0 kb1 kb2 kb3 kb4 kb5 kb6 kb7 kb8 lt_b ko0 ko1 ko2 ko3 ko4 ko5 ko6 ko7 ko8 lt_o
                    go_wp2_with fail
                    refine (awake_any _).mono ?_
                    rintro e w40 ⟨rfl, hb40⟩
                    go_wp2_with fail
                    go_ret
                    exact ⟨rfl, HBj.out.trans (hb40.mono hsj)⟩
      · have hq : (E != 0) = true := by simpa using hE0
        have hq2 : (E == 0) = false := by simpa using hE0
        have HBE := Lib.hid ((binErr_barn (by rw [← HEQ.out]; exact hE0)).trans HEQ.out.symm : binErr b bs bin = E)
        as_aux_lemma =>
          go_wp2_with fail
          refine (Rises_err b A1n6 c1n6 bs _ (HPc.out.up (zg)) h8' bin (by rw [HBE.out]; first | assumption | decide)).mono ?_
          rw [HBE.out]
          rintro e we ⟨rfl, hbe⟩
          have Hbe := Lib.hid (Holds.up (by have h := Hbc.out; exact zp : Holds _ (w.heap.size) 25 #[.int .i64 b.cool, .int .i64 b.gangs, .int .i64 b.r0, .int .i64 b.r1, .int .i64 b.r2, .int .i64 b.r3, .int .i64 b.r4, .int .i64 b.r5, .slice A bs.length c]) hbe)
          have Hde := Lib.hid (Holds.up (by have h := Hdc.out; exact zp : Holds _ (w.heap.size + 1) 27 #[.int .i64 lo, .int .i64 hi]) hbe)
          have Hoe := Lib.hid (Holds.up (by have h := Hoc.out; exact zp : Holds _ (zn6) 25 #[.int .i64 b.cool, .int .i64 b.gangs, .int .i64 b.r0, .int .i64 b.r1, .int .i64 b.r2, .int .i64 b.r3, .int .i64 b.r4, .int .i64 b.r5, .slice A1n6 bs.length c1n6]) hbe)
          have Hxe := Lib.hid (Holds.up (by have h := Hxc.out; exact zp : Holds _ (zn7) 33 #[.int .i64 b.cool, .int .i64 b.gangs, .int .i64 b.r0, .int .i64 b.r1, .int .i64 b.r2, .int .i64 b.r3, .int .i64 b.r4, .int .i64 b.r5, .slice A2n7 bs.length c2n7]) hbe)
          have Hse := Lib.hid (Holds.up (zp : Holds _ (wc.heap.size) 27 #[.int .i64 0, .int .i64 0]) hbe)
          have Hze := Lib.hid (Holds.up (zp : Holds _ (wc.heap.size + 1) 25 #[.int .i64 0, .int .i64 0, .int .i64 0, .int .i64 0, .int .i64 0, .int .i64 0, .int .i64 0, .int .i64 0, .slice none 0 0]) hbe)
          have HSe : Hid (Below wc.heap.size wc we) := Lib.hid (Below.trans (zg) (hbe.mono (by first | exact Nat.le_refl _ | omega | (simp; done) | (simp; omega))))
          have HBe : Hid (Below w.heap.size w we) := Lib.hid (HBc.out.trans (HSe.out.mono hsc))
          have hse := HBe.out.size
          have hste := HSe.out.size
          have HAe := Lib.hid (HAc.out.up HSe.out)
          have HPe := Lib.hid (HPc.out.up HSe.out)
          have HMe := Lib.hid (HMc.out.up HSe.out)
          clear hbe
          clear kb0 kb1 kb2 kb3 kb4 kb5 kb6 kb7 kb8 lt_b kd0 kd1 lt_d ko0 ko1 ko2 ko3 ko4 ko5 ko6 ko7 ko8 lt_o kx0 kx1 kx2 kx3 kx4 kx5 kx6 kx7 kx8 lt_x
          have ko0 : we.cell? ⟨zn6, 0, none⟩ = some (.int .i64 b.cool) := Hoe.out.cell 0
          have ko1 : we.cell? ⟨zn6, 1, none⟩ = some (.int .i64 b.gangs) := Hoe.out.cell 1
          have ko2 : we.cell? ⟨zn6, 2, none⟩ = some (.int .i64 b.r0) := Hoe.out.cell 2
          have ko3 : we.cell? ⟨zn6, 3, none⟩ = some (.int .i64 b.r1) := Hoe.out.cell 3
          have ko4 : we.cell? ⟨zn6, 4, none⟩ = some (.int .i64 b.r2) := Hoe.out.cell 4
          have ko5 : we.cell? ⟨zn6, 5, none⟩ = some (.int .i64 b.r3) := Hoe.out.cell 5
          have ko6 : we.cell? ⟨zn6, 6, none⟩ = some (.int .i64 b.r4) := Hoe.out.cell 6
          have ko7 : we.cell? ⟨zn6, 7, none⟩ = some (.int .i64 b.r5) := Hoe.out.cell 7
          have ko8 : we.cell? ⟨zn6, 8, none⟩ = some (.slice A1n6 bs.length c1n6) := Hoe.out.cell 8
          have lt_o : zn6 < we.heap.size := Hoe.out.lt
          go_wp2_with fail
          refine (Left_err b A1n6 c1n6 bs _ (HPe.out.up (zg)) h8' bin (by rw [HBE.out]; first | assumption | decide)).mono ?_
          rw [HBE.out]
          rintro e wf ⟨rfl, hbf⟩
          have Hbf := Lib.hid (Holds.up (by have h := Hbe.out; exact zp : Holds _ (w.heap.size) 25 #[.int .i64 b.cool, .int .i64 b.gangs, .int .i64 b.r0, .int .i64 b.r1, .int .i64 b.r2, .int .i64 b.r3, .int .i64 b.r4, .int .i64 b.r5, .slice A bs.length c]) hbf)
          have Hdf := Lib.hid (Holds.up (by have h := Hde.out; exact zp : Holds _ (w.heap.size + 1) 27 #[.int .i64 lo, .int .i64 hi]) hbf)
          have Hof := Lib.hid (Holds.up (by have h := Hoe.out; exact zp : Holds _ (zn6) 25 #[.int .i64 b.cool, .int .i64 b.gangs, .int .i64 b.r0, .int .i64 b.r1, .int .i64 b.r2, .int .i64 b.r3, .int .i64 b.r4, .int .i64 b.r5, .slice A1n6 bs.length c1n6]) hbf)
          have Hxf := Lib.hid (Holds.up (by have h := Hxe.out; exact zp : Holds _ (zn7) 33 #[.int .i64 b.cool, .int .i64 b.gangs, .int .i64 b.r0, .int .i64 b.r1, .int .i64 b.r2, .int .i64 b.r3, .int .i64 b.r4, .int .i64 b.r5, .slice A2n7 bs.length c2n7]) hbf)
          have Hsf := Lib.hid (Holds.up (by have h := Hse.out; exact zp : Holds _ (wc.heap.size) 27 #[.int .i64 0, .int .i64 0]) hbf)
          have Hzf := Lib.hid (Holds.up (by have h := Hze.out; exact zp : Holds _ (wc.heap.size + 1) 25 #[.int .i64 0, .int .i64 0, .int .i64 0, .int .i64 0, .int .i64 0, .int .i64 0, .int .i64 0, .int .i64 0, .slice none 0 0]) hbf)
          have Htf := Lib.hid (Holds.up (zp : Holds _ (we.heap.size) 27 #[.int .i64 0, .int .i64 0]) hbf)
          have HSf : Hid (Below we.heap.size we wf) := Lib.hid (Below.trans (zg) (hbf.mono (by first | exact Nat.le_refl _ | omega | (simp; done) | (simp; omega))))
          have HBf : Hid (Below w.heap.size w wf) := Lib.hid (HBe.out.trans (HSf.out.mono hse))
          have hsf := HBf.out.size
          have hstf := HSf.out.size
          have HAf := Lib.hid (HAe.out.up HSf.out)
          have HPf := Lib.hid (HPe.out.up HSf.out)
          have HMf := Lib.hid (HMe.out.up HSf.out)
          clear hbf
          clear ko0 ko1 ko2 ko3 ko4 ko5 ko6 ko7 ko8 lt_o
          have ko0 : wf.cell? ⟨zn6, 0, none⟩ = some (.int .i64 b.cool) := Hof.out.cell 0
          have ko1 : wf.cell? ⟨zn6, 1, none⟩ = some (.int .i64 b.gangs) := Hof.out.cell 1
          have ko2 : wf.cell? ⟨zn6, 2, none⟩ = some (.int .i64 b.r0) := Hof.out.cell 2
          have ko3 : wf.cell? ⟨zn6, 3, none⟩ = some (.int .i64 b.r1) := Hof.out.cell 3
          have ko4 : wf.cell? ⟨zn6, 4, none⟩ = some (.int .i64 b.r2) := Hof.out.cell 4
          have ko5 : wf.cell? ⟨zn6, 5, none⟩ = some (.int .i64 b.r3) := Hof.out.cell 5
          have ko6 : wf.cell? ⟨zn6, 6, none⟩ = some (.int .i64 b.r4) := Hof.out.cell 6
          have ko7 : wf.cell? ⟨zn6, 7, none⟩ = some (.int .i64 b.r5) := Hof.out.cell 7
          have ko8 : wf.cell? ⟨zn6, 8, none⟩ = some (.slice A1n6 bs.length c1n6) := Hof.out.cell 8
          have lt_o : zn6 < wf.heap.size := Hof.out.lt
          go_wp2_with fail
          refine (Lasts_err b A1n6 c1n6 bs _ (HPf.out.up (zg)) h8' bin (by rw [HBE.out]; first | assumption | decide)).mono ?_
          rw [HBE.out]
          rintro e wg ⟨rfl, hbg⟩
          have Hbg := Lib.hid (Holds.up (by have h := Hbf.out; exact zp : Holds _ (w.heap.size) 25 #[.int .i64 b.cool, .int .i64 b.gangs, .int .i64 b.r0, .int .i64 b.r1, .int .i64 b.r2, .int .i64 b.r3, .int .i64 b.r4, .int .i64 b.r5, .slice A bs.length c]) hbg)
          have Hdg := Lib.hid (Holds.up (by have h := Hdf.out; exact zp : Holds _ (w.heap.size + 1) 27 #[.int .i64 lo, .int .i64 hi]) hbg)
          have Hog := Lib.hid (Holds.up (by have h := Hof.out; exact zp : Holds _ (zn6) 25 #[.int .i64 b.cool, .int .i64 b.gangs, .int .i64 b.r0, .int .i64 b.r1, .int .i64 b.r2, .int .i64 b.r3, .int .i64 b.r4, .int .i64 b.r5, .slice A1n6 bs.length c1n6]) hbg)
          have Hxg := Lib.hid (Holds.up (by have h := Hxf.out; exact zp : Holds _ (zn7) 33 #[.int .i64 b.cool, .int .i64 b.gangs, .int .i64 b.r0, .int .i64 b.r1, .int .i64 b.r2, .int .i64 b.r3, .int .i64 b.r4, .int .i64 b.r5, .slice A2n7 bs.length c2n7]) hbg)
          have Hsg := Lib.hid (Holds.up (by have h := Hsf.out; exact zp : Holds _ (wc.heap.size) 27 #[.int .i64 0, .int .i64 0]) hbg)
          have Hzg := Lib.hid (Holds.up (by have h := Hzf.out; exact zp : Holds _ (wc.heap.size + 1) 25 #[.int .i64 0, .int .i64 0, .int .i64 0, .int .i64 0, .int .i64 0, .int .i64 0, .int .i64 0, .int .i64 0, .slice none 0 0]) hbg)
          have Htg := Lib.hid (Holds.up (by have h := Htf.out; exact zp : Holds _ (we.heap.size) 27 #[.int .i64 0, .int .i64 0]) hbg)
          have HSg : Hid (Below wf.heap.size wf wg) := Lib.hid (Below.trans (zg) (hbg.mono (by first | exact Nat.le_refl _ | omega | (simp; done) | (simp; omega))))
          have HBg : Hid (Below w.heap.size w wg) := Lib.hid (HBf.out.trans (HSg.out.mono hsf))
          have hsg := HBg.out.size
          have hstg := HSg.out.size
          have HAg := Lib.hid (HAf.out.up HSg.out)
          have HPg := Lib.hid (HPf.out.up HSg.out)
          have HMg := Lib.hid (HMf.out.up HSg.out)
          clear hbg
          clear ko0 ko1 ko2 ko3 ko4 ko5 ko6 ko7 ko8 lt_o
          have ko0 : wg.cell? ⟨zn6, 0, none⟩ = some (.int .i64 b.cool) := Hog.out.cell 0
          have ko1 : wg.cell? ⟨zn6, 1, none⟩ = some (.int .i64 b.gangs) := Hog.out.cell 1
          have ko2 : wg.cell? ⟨zn6, 2, none⟩ = some (.int .i64 b.r0) := Hog.out.cell 2
          have ko3 : wg.cell? ⟨zn6, 3, none⟩ = some (.int .i64 b.r1) := Hog.out.cell 3
          have ko4 : wg.cell? ⟨zn6, 4, none⟩ = some (.int .i64 b.r2) := Hog.out.cell 4
          have ko5 : wg.cell? ⟨zn6, 5, none⟩ = some (.int .i64 b.r3) := Hog.out.cell 5
          have ko6 : wg.cell? ⟨zn6, 6, none⟩ = some (.int .i64 b.r4) := Hog.out.cell 6
          have ko7 : wg.cell? ⟨zn6, 7, none⟩ = some (.int .i64 b.r5) := Hog.out.cell 7
          have ko8 : wg.cell? ⟨zn6, 8, none⟩ = some (.slice A1n6 bs.length c1n6) := Hog.out.cell 8
          have lt_o : zn6 < wg.heap.size := Hog.out.lt
          have kd0 : wg.cell? ⟨w.heap.size + 1, 0, none⟩ = some (.int .i64 lo) := Hdg.out.cell 0
          have kd1 : wg.cell? ⟨w.heap.size + 1, 1, none⟩ = some (.int .i64 hi) := Hdg.out.cell 1
          have lt_d : w.heap.size + 1 < wg.heap.size := Hdg.out.lt
          go_wp2_with fail
          refine (Sample_err b A1n6 c1n6 bs _ (HPg.out.up (zg)) h8' lo hi bin (by rw [HBE.out]; first | assumption | decide)).mono ?_
          rw [HBE.out]
          rintro e wh ⟨rfl, hbh⟩
          have Hbh := Lib.hid (Holds.up (by have h := Hbg.out; exact zp : Holds _ (w.heap.size) 25 #[.int .i64 b.cool, .int .i64 b.gangs, .int .i64 b.r0, .int .i64 b.r1, .int .i64 b.r2, .int .i64 b.r3, .int .i64 b.r4, .int .i64 b.r5, .slice A bs.length c]) hbh)
          have Hdh := Lib.hid (Holds.up (by have h := Hdg.out; exact zp : Holds _ (w.heap.size + 1) 27 #[.int .i64 lo, .int .i64 hi]) hbh)
          have Hoh := Lib.hid (Holds.up (by have h := Hog.out; exact zp : Holds _ (zn6) 25 #[.int .i64 b.cool, .int .i64 b.gangs, .int .i64 b.r0, .int .i64 b.r1, .int .i64 b.r2, .int .i64 b.r3, .int .i64 b.r4, .int .i64 b.r5, .slice A1n6 bs.length c1n6]) hbh)
          have Hxh := Lib.hid (Holds.up (by have h := Hxg.out; exact zp : Holds _ (zn7) 33 #[.int .i64 b.cool, .int .i64 b.gangs, .int .i64 b.r0, .int .i64 b.r1, .int .i64 b.r2, .int .i64 b.r3, .int .i64 b.r4, .int .i64 b.r5, .slice A2n7 bs.length c2n7]) hbh)
          have Hsh := Lib.hid (Holds.up (by have h := Hsg.out; exact zp : Holds _ (wc.heap.size) 27 #[.int .i64 0, .int .i64 0]) hbh)
          have Hzh := Lib.hid (Holds.up (by have h := Hzg.out; exact zp : Holds _ (wc.heap.size + 1) 25 #[.int .i64 0, .int .i64 0, .int .i64 0, .int .i64 0, .int .i64 0, .int .i64 0, .int .i64 0, .int .i64 0, .slice none 0 0]) hbh)
          have Hth := Lib.hid (Holds.up (by have h := Htg.out; exact zp : Holds _ (we.heap.size) 27 #[.int .i64 0, .int .i64 0]) hbh)
          have HSh : Hid (Below wg.heap.size wg wh) := Lib.hid (Below.trans (zg) (hbh.mono (by first | exact Nat.le_refl _ | omega | (simp; done) | (simp; omega))))
          have HBh : Hid (Below w.heap.size w wh) := Lib.hid (HBg.out.trans (HSh.out.mono hsg))
          have hsh := HBh.out.size
          have hsth := HSh.out.size
          have HAh := Lib.hid (HAg.out.up HSh.out)
          have HPh := Lib.hid (HPg.out.up HSh.out)
          have HMh := Lib.hid (HMg.out.up HSh.out)
          clear hbh
          clear ko0 ko1 ko2 ko3 ko4 ko5 ko6 ko7 ko8 lt_o kd0 kd1 lt_d
          have kt0 : wh.cell? ⟨we.heap.size, 0, none⟩ = some (.int .i64 0) := Hth.out.cell 0
          have kt1 : wh.cell? ⟨we.heap.size, 1, none⟩ = some (.int .i64 0) := Hth.out.cell 1
          have lt_t : we.heap.size < wh.heap.size := Hth.out.lt
          have ks0 : wh.cell? ⟨wc.heap.size, 0, none⟩ = some (.int .i64 0) := Hsh.out.cell 0
          have ks1 : wh.cell? ⟨wc.heap.size, 1, none⟩ = some (.int .i64 0) := Hsh.out.cell 1
          have lt_s : wc.heap.size < wh.heap.size := Hsh.out.lt
          have kz0 : wh.cell? ⟨wc.heap.size + 1, 0, none⟩ = some (.int .i64 0) := Hzh.out.cell 0
          have kz1 : wh.cell? ⟨wc.heap.size + 1, 1, none⟩ = some (.int .i64 0) := Hzh.out.cell 1
          have kz2 : wh.cell? ⟨wc.heap.size + 1, 2, none⟩ = some (.int .i64 0) := Hzh.out.cell 2
          have kz3 : wh.cell? ⟨wc.heap.size + 1, 3, none⟩ = some (.int .i64 0) := Hzh.out.cell 3
          have kz4 : wh.cell? ⟨wc.heap.size + 1, 4, none⟩ = some (.int .i64 0) := Hzh.out.cell 4
          have kz5 : wh.cell? ⟨wc.heap.size + 1, 5, none⟩ = some (.int .i64 0) := Hzh.out.cell 5
          have kz6 : wh.cell? ⟨wc.heap.size + 1, 6, none⟩ = some (.int .i64 0) := Hzh.out.cell 6
          have kz7 : wh.cell? ⟨wc.heap.size + 1, 7, none⟩ = some (.int .i64 0) := Hzh.out.cell 7
          have kz8 : wh.cell? ⟨wc.heap.size + 1, 8, none⟩ = some (.slice none 0 0) := Hzh.out.cell 8
          have lt_z : wc.heap.size + 1 < wh.heap.size := Hzh.out.lt
          have hneq := neq_span 0 0
          go_wp2_with fail
          refine (same_same ⟨0, 0, 0, 0, 0, 0, 0, 0⟩ none none 0 0 [] _ (RowAt.nil _ _ _ _) (RowAt.nil _ _ _ _) (by decide)).mono ?_
          rintro e wi ⟨rfl, hbi⟩
          have Hbi := Lib.hid (Holds.up (by have h := Hbh.out; exact zp : Holds _ (w.heap.size) 25 #[.int .i64 b.cool, .int .i64 b.gangs, .int .i64 b.r0, .int .i64 b.r1, .int .i64 b.r2, .int .i64 b.r3, .int .i64 b.r4, .int .i64 b.r5, .slice A bs.length c]) hbi)
          have Hdi := Lib.hid (Holds.up (by have h := Hdh.out; exact zp : Holds _ (w.heap.size + 1) 27 #[.int .i64 lo, .int .i64 hi]) hbi)
          have Hoi := Lib.hid (Holds.up (by have h := Hoh.out; exact zp : Holds _ (zn6) 25 #[.int .i64 b.cool, .int .i64 b.gangs, .int .i64 b.r0, .int .i64 b.r1, .int .i64 b.r2, .int .i64 b.r3, .int .i64 b.r4, .int .i64 b.r5, .slice A1n6 bs.length c1n6]) hbi)
          have Hxi := Lib.hid (Holds.up (by have h := Hxh.out; exact zp : Holds _ (zn7) 33 #[.int .i64 b.cool, .int .i64 b.gangs, .int .i64 b.r0, .int .i64 b.r1, .int .i64 b.r2, .int .i64 b.r3, .int .i64 b.r4, .int .i64 b.r5, .slice A2n7 bs.length c2n7]) hbi)
          have Hsi := Lib.hid (Holds.up (by have h := Hsh.out; exact zp : Holds _ (wc.heap.size) 27 #[.int .i64 0, .int .i64 0]) hbi)
          have Hzi := Lib.hid (Holds.up (by have h := Hzh.out; exact zp : Holds _ (wc.heap.size + 1) 25 #[.int .i64 0, .int .i64 0, .int .i64 0, .int .i64 0, .int .i64 0, .int .i64 0, .int .i64 0, .int .i64 0, .slice none 0 0]) hbi)
          have Hti := Lib.hid (Holds.up (by have h := Hth.out; exact zp : Holds _ (we.heap.size) 27 #[.int .i64 0, .int .i64 0]) hbi)
          have Hci := Lib.hid (Holds.up (zp : Holds _ (wh.heap.size) 25 #[.int .i64 0, .int .i64 0, .int .i64 0, .int .i64 0, .int .i64 0, .int .i64 0, .int .i64 0, .int .i64 0, .slice none 0 0]) hbi)
          have HSi : Hid (Below wh.heap.size wh wi) := Lib.hid (Below.trans (zg) (hbi.mono (by first | exact Nat.le_refl _ | omega | (simp; done) | (simp; omega))))
          have HBi : Hid (Below w.heap.size w wi) := Lib.hid (HBh.out.trans (HSi.out.mono hsh))
          have hsi := HBi.out.size
          have hsti := HSi.out.size
          have HAi := Lib.hid (HAh.out.up HSi.out)
          have HPi := Lib.hid (HPh.out.up HSi.out)
          have HMi := Lib.hid (HMh.out.up HSi.out)
          clear hbi
          clear kt0 kt1 lt_t ks0 ks1 lt_s kz0 kz1 kz2 kz3 kz4 kz5 kz6 kz7 kz8 lt_z
          have kc0 : wi.cell? ⟨wh.heap.size, 0, none⟩ = some (.int .i64 0) := Hci.out.cell 0
          have kc1 : wi.cell? ⟨wh.heap.size, 1, none⟩ = some (.int .i64 0) := Hci.out.cell 1
          have kc2 : wi.cell? ⟨wh.heap.size, 2, none⟩ = some (.int .i64 0) := Hci.out.cell 2
          have kc3 : wi.cell? ⟨wh.heap.size, 3, none⟩ = some (.int .i64 0) := Hci.out.cell 3
          have kc4 : wi.cell? ⟨wh.heap.size, 4, none⟩ = some (.int .i64 0) := Hci.out.cell 4
          have kc5 : wi.cell? ⟨wh.heap.size, 5, none⟩ = some (.int .i64 0) := Hci.out.cell 5
          have kc6 : wi.cell? ⟨wh.heap.size, 6, none⟩ = some (.int .i64 0) := Hci.out.cell 6
          have kc7 : wi.cell? ⟨wh.heap.size, 7, none⟩ = some (.int .i64 0) := Hci.out.cell 7
          have kc8 : wi.cell? ⟨wh.heap.size, 8, none⟩ = some (.slice none 0 0) := Hci.out.cell 8
          have lt_c : wh.heap.size < wi.heap.size := Hci.out.lt
          have hclr := run_clear_nil wi 0
          have kb0 : wi.cell? ⟨w.heap.size, 0, none⟩ = some (.int .i64 b.cool) := Hbi.out.cell 0
          have kb1 : wi.cell? ⟨w.heap.size, 1, none⟩ = some (.int .i64 b.gangs) := Hbi.out.cell 1
          have kb2 : wi.cell? ⟨w.heap.size, 2, none⟩ = some (.int .i64 b.r0) := Hbi.out.cell 2
          have kb3 : wi.cell? ⟨w.heap.size, 3, none⟩ = some (.int .i64 b.r1) := Hbi.out.cell 3
          have kb4 : wi.cell? ⟨w.heap.size, 4, none⟩ = some (.int .i64 b.r2) := Hbi.out.cell 4
          have kb5 : wi.cell? ⟨w.heap.size, 5, none⟩ = some (.int .i64 b.r3) := Hbi.out.cell 5
          have kb6 : wi.cell? ⟨w.heap.size, 6, none⟩ = some (.int .i64 b.r4) := Hbi.out.cell 6
          have kb7 : wi.cell? ⟨w.heap.size, 7, none⟩ = some (.int .i64 b.r5) := Hbi.out.cell 7
          have kb8 : wi.cell? ⟨w.heap.size, 8, none⟩ = some (.slice A bs.length c) := Hbi.out.cell 8
          have lt_b : w.heap.size < wi.heap.size := Hbi.out.lt
          have ko0 : wi.cell? ⟨zn6, 0, none⟩ = some (.int .i64 b.cool) := Hoi.out.cell 0
          have ko1 : wi.cell? ⟨zn6, 1, none⟩ = some (.int .i64 b.gangs) := Hoi.out.cell 1
          have ko2 : wi.cell? ⟨zn6, 2, none⟩ = some (.int .i64 b.r0) := Hoi.out.cell 2
          have ko3 : wi.cell? ⟨zn6, 3, none⟩ = some (.int .i64 b.r1) := Hoi.out.cell 3
          have ko4 : wi.cell? ⟨zn6, 4, none⟩ = some (.int .i64 b.r2) := Hoi.out.cell 4
          have ko5 : wi.cell? ⟨zn6, 5, none⟩ = some (.int .i64 b.r3) := Hoi.out.cell 5
          have ko6 : wi.cell? ⟨zn6, 6, none⟩ = some (.int .i64 b.r4) := Hoi.out.cell 6
          have ko7 : wi.cell? ⟨zn6, 7, none⟩ = some (.int .i64 b.r5) := Hoi.out.cell 7
          have ko8 : wi.cell? ⟨zn6, 8, none⟩ = some (.slice A1n6 bs.length c1n6) := Hoi.out.cell 8
          have lt_o : zn6 < wi.heap.size := Hoi.out.lt
          go_wp2_with (at_builtin; go_loud (refine wpList_clear_run _ rfl _ _ rfl _ rfl hclr ?_))
          refine (same_same b A1n6 A c1n6 c bs _ (HPi.out.up (zg)) (HAi.out.up (zg)) h8').mono ?_
          rintro e wj ⟨rfl, hbj⟩
          have Hbj := Lib.hid (Holds.up (by have h := Hbi.out; exact zp : Holds _ (w.heap.size) 25 #[.int .i64 b.cool, .int .i64 b.gangs, .int .i64 b.r0, .int .i64 b.r1, .int .i64 b.r2, .int .i64 b.r3, .int .i64 b.r4, .int .i64 b.r5, .slice A bs.length c]) hbj)
          have Hoj := Lib.hid (Holds.up (by have h := Hoi.out; exact zp : Holds _ (zn6) 25 #[.int .i64 b.cool, .int .i64 b.gangs, .int .i64 b.r0, .int .i64 b.r1, .int .i64 b.r2, .int .i64 b.r3, .int .i64 b.r4, .int .i64 b.r5, .slice A1n6 bs.length c1n6]) hbj)
          have HSj : Hid (Below wi.heap.size wi wj) := Lib.hid (Below.trans (zg) (hbj.mono (by first | exact Nat.le_refl _ | omega | (simp; done) | (simp; omega))))
          have HBj : Hid (Below w.heap.size w wj) := Lib.hid (HBi.out.trans (HSj.out.mono hsi))
          have hsj := HBj.out.size
          have hstj := HSj.out.size
          have HAj := Lib.hid (HAi.out.up HSj.out)
          have HPj := Lib.hid (HPi.out.up HSj.out)
          clear hbj
          clear kb0 kb1 kb2 kb3 kb4 kb5 kb6 kb7 kb8 lt_b ko0 ko1 ko2 ko3 ko4 ko5 ko6 ko7 ko8 lt_o
          go_wp2_with fail
          refine (awake_any _).mono ?_
          rintro e w40 ⟨rfl, hb40⟩
          go_wp2_with fail
          go_ret
          exact ⟨rfl, HBj.out.trans (hb40.mono hsj)⟩
end Go.Proofs.Ytfghfmlcfbkmjaa
