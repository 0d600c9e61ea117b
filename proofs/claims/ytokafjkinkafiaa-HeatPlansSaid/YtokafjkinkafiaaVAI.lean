
import Derived.Test.YtokafjkinkafiaaVAA
import Derived.Test.YtokafjkinkafiaaVAF
set_option linter.unusedSimpArgs false
set_option linter.unusedVariables false
namespace Go.Proofs.Ytokafjkinkafiaa
open Go.RowKit
def Seen (k m i k' m' d' : Nat) : Prop := k' < k ∨ k' = k ∧ (m' < m ∨ m' = m ∧ d' < i)
def Best (F : Nat → Nat → Nat → Bool) (k m i day bin : Nat) (any : Bool) : Prop :=
 (any = false → day = 0 ∧ bin = 0 ∧ ∀ k' m' d', Seen k m i k' m' d' → F k' m' d' = false) ∧
 (any = true → bin ≤ k ∧ (∃ m', F bin m' day = true) ∧ ∀ k' m' d', Seen k m i k' m' d' → F k' m' d' = true → day < d' ∨ day = d' ∧ bin ≤ k')
theorem best_start (F : Nat → Nat → Nat → Bool) (m : Nat) (h : ∀ m' d', m' < m → F 0 m' d' = false) : Best F 0 m 0 0 0 false := by
 refine ⟨fun _ => ⟨rfl, rfl, fun k' m' d' h' => ?_⟩, fun h => by cases h⟩
 rcases h' with h1 | ⟨rfl, h1 | ⟨_, h1⟩⟩
 ·omega
 ·exact h m' d' h1
 ·omega
theorem best_take {F : Nat → Nat → Nat → Bool} {k m i day bin : Nat} {any : Bool} (h : Best F k m i day bin any) (hF : F k m i = true) (hc : any = false ∨ i < day) : Best F k m (i + 1) i k true := by
 refine ⟨(fun h => by cases h), fun _ => ⟨Nat.le_refl _, ⟨m, hF⟩, fun k' m' d' hs ht => ?_⟩⟩
 have hcase : Seen k m i k' m' d' ∨ (k' = k ∧ m' = m ∧ d' = i) := by
  rcases hs with h1 | ⟨rfl, h1 | ⟨rfl, h1⟩⟩
  ·exact .inl (.inl h1)
  ·exact .inl (.inr ⟨rfl, .inl h1⟩)
  ·by_cases e : d' = i
   ·exact .inr ⟨rfl, rfl, e⟩
   ·exact .inl (.inr ⟨rfl, .inr ⟨rfl, by omega⟩⟩)
 rcases hcase with hs | ⟨rfl, rfl, rfl⟩
 ·cases any with
  | false => rw [(h.1 rfl).2.2 k' m' d' hs] at ht; cases ht
  | true =>
   rcases hc with hc | hc
   ·cases hc
   ·rcases (h.2 rfl).2.2 k' m' d' hs ht with h1 | ⟨h1, _⟩
    ·exact .inl (by omega)
    ·exact .inl (by omega)
 ·exact .inr ⟨rfl, Nat.le_refl _⟩
theorem best_keep {F : Nat → Nat → Nat → Bool} {k m i day bin : Nat} {any : Bool} (h : Best F k m i day bin any) (hc : F k m i = false ∨ any = true ∧ day ≤ i) : Best F k m (i + 1) day bin any := by
 have hcase : ∀ k' m' d', Seen k m (i + 1) k' m' d' → Seen k m i k' m' d' ∨ (k' = k ∧ m' = m ∧ d' = i) := by
  intro k' m' d' hs
  rcases hs with h1 | ⟨rfl, h1 | ⟨rfl, h1⟩⟩
  ·exact .inl (.inl h1)
  ·exact .inl (.inr ⟨rfl, .inl h1⟩)
  ·by_cases e : d' = i
   ·exact .inr ⟨rfl, rfl, e⟩
   ·exact .inl (.inr ⟨rfl, .inr ⟨rfl, by omega⟩⟩)
 refine ⟨fun ha => ?_, fun ha => ?_⟩
 ·obtain ⟨h1, h2, h3⟩ := h.1 ha
  refine ⟨h1, h2, fun k' m' d' hs => ?_⟩
  rcases hcase k' m' d' hs with hs | ⟨rfl, rfl, rfl⟩
  ·exact h3 k' m' d' hs
  ·rcases hc with hc | ⟨hc, _⟩
   ·exact hc
   ·rw [ha] at hc; cases hc
 ·obtain ⟨h1, h2, h3⟩ := h.2 ha
  refine ⟨h1, h2, fun k' m' d' hs ht => ?_⟩
  rcases hcase k' m' d' hs with hs | ⟨rfl, rfl, rfl⟩
  ·exact h3 k' m' d' hs ht
  ·rcases hc with hc | ⟨_, hc⟩
   ·rw [hc] at ht; cases ht
   ·by_cases e : day = d'
    ·exact .inr ⟨e, h1⟩
    ·exact .inl (by omega)
theorem best_same {F : Nat → Nat → Nat → Bool} {k m i k2 m2 i2 day bin : Nat} {any : Bool} (h : Best F k m i day bin any) (hk : k ≤ k2) (hs : ∀ k' m' d', Seen k2 m2 i2 k' m' d' → Seen k m i k' m' d' ∨ F k' m' d' = false) : Best F k2 m2 i2 day bin any := by
 refine ⟨fun ha => ?_, fun ha => ?_⟩
 ·obtain ⟨h1, h2, h3⟩ := h.1 ha
  refine ⟨h1, h2, fun k' m' d' h' => ?_⟩
  rcases hs k' m' d' h' with h' | h'
  ·exact h3 k' m' d' h'
  ·exact h'
 ·obtain ⟨h1, h2, h3⟩ := h.2 ha
  refine ⟨by omega, h2, fun k' m' d' h' ht => ?_⟩
  rcases hs k' m' d' h' with h' | h'
  ·exact h3 k' m' d' h' ht
  ·rw [h'] at ht; cases ht
theorem best_m {F : Nat → Nat → Nat → Bool} {k m n day bin : Nat} {any : Bool} (h : Best F k m n day bin any) (hF : ∀ d', n ≤ d' → F k m d' = false) : Best F k (m + 1) 0 day bin any :=
 best_same h (Nat.le_refl _) (fun k' m' d' hs => by
  rcases hs with h1 | ⟨rfl, h1 | ⟨_, h1⟩⟩
  ·exact .inl (.inl h1)
  ·by_cases e : m' = m
   ·subst e
    by_cases e2 : d' < n
    ·exact .inl (.inr ⟨rfl, .inr ⟨rfl, e2⟩⟩)
    ·exact .inr (hF d' (by omega))
   ·exact .inl (.inr ⟨rfl, .inl (by omega)⟩)
  ·omega)
theorem best_k {F : Nat → Nat → Nat → Bool} {k m m2 day bin : Nat} {any : Bool} (h : Best F k m 0 day bin any) (hF : ∀ m' d', m ≤ m' → F k m' d' = false) (hF2 : ∀ m' d', m' < m2 → F (k + 1) m' d' = false) : Best F (k + 1) m2 0 day bin any :=
 best_same h (by omega) (fun k' m' d' hs => by
  rcases hs with h1 | ⟨rfl, h1 | ⟨_, h1⟩⟩
  ·by_cases e : k' = k
   ·subst e
    by_cases e2 : m' < m
    ·exact .inl (.inr ⟨rfl, .inl e2⟩)
    ·exact .inr (hF m' d' (by omega))
   ·exact .inl (.inl (by omega))
  ·exact .inr (hF2 m' d' h1)
  ·omega)
theorem results_of3 {fn : Func} {t u v : Tmp} (h : fn.results = #[.tmp t, .tmp u, .tmp v]) (tmps : Array Value) (P : Program) (w : World) :
  (results fn tmps).run P w = .ok (.tuple #[tmps.getD t undef, tmps.getD u undef, tmps.getD v undef]) w := by
 simp [results, h]
theorem ret_three {P : Program} {fn : Func} {p q r : Tmp} (h : fn.results = #[.tmp p, .tmp q, .tmp r]) {a : Act} {w : World} {R : Ending → World → Prop} (hdf : a.defers = [])
  (hR : R (.returned (.tuple #[a.tmps.getD p undef, a.tmps.getD q undef, a.tmps.getD r undef])) w) : bodyPost P fn R .ret a w :=
 bodyPost_ret (results_of3 h _ _ _) hdf hR
def burnF (b : Br) (bs : List Bn) (p : List (List Int)) (k m d : Nat) : Bool := match bs[k]? with
 | none => false
 | some x => decide (x.lo ≤ (m : Int) ∧ (m : Int) ≤ x.hi) && (match (warmList b.cool (b.rise (m : Int)) k x.warm p)[d]? with
  | none => false
  | some g => decide (x.mark < g))
theorem burn_at {b : Br} {bs : List Bn} {p : List (List Int)} {k m d : Nat} {x : Bn} {g : Int} (hx : bs[k]? = some x) (h1 : x.lo ≤ (m : Int)) (h2 : (m : Int) ≤ x.hi) (hg : (warmList b.cool (b.rise (m : Int)) k x.warm p)[d]? = some g) : burnF b bs p k m d = decide (x.mark < g) := by
 unfold burnF
 rw [hx]
 simp only [hg, decide_eq_true (And.intro h1 h2), Bool.true_and]
theorem burn_off {b : Br} {bs : List Bn} {p : List (List Int)} {k m d : Nat} {x : Bn} (hx : bs[k]? = some x) (h : (m : Int) < x.lo ∨ x.hi < (m : Int)) : burnF b bs p k m d = false := by
 unfold burnF
 rw [hx]
 simp only [decide_eq_false (show ¬ (x.lo ≤ (m : Int) ∧ (m : Int) ≤ x.hi) by omega), Bool.false_and]
theorem burn_len {b : Br} {bs : List Bn} {p : List (List Int)} {k m d : Nat} (h : p.length ≤ d) : burnF b bs p k m d = false := by
 unfold burnF
 split
 ·rfl
 ·rw [List.getElem?_eq_none (by rw [warm_len]; exact h)]
  simp only [Bool.and_false]
set_option maxRecDepth 100000 in
set_option maxHeartbeats 40000000 in
theorem refBurns_any (b : Br) (A : Option Addr) (c : Nat) (bs : List Bn) (P : Option Addr) (q : Nat) (p : List (List Int)) (w : World) (hA : BinsAt w A bs) (hl : bs.length ≤ 1000) (hP : PlanAt w P p) (hpl : p.length ≤ 20000) (hll : ∀ l ∈ p, l.length ≤ 1000) (hE : barnErr b bs = 0) :
  Calls Try.prog 26 #[.agg #[.int .i64 b.cool, .int .i64 b.gangs, .int .i64 b.r0, .int .i64 b.r1, .int .i64 b.r2, .int .i64 b.r3, .int .i64 b.r4, .int .i64 b.r5, .slice A bs.length c], .slice P p.length q] w fun e w' => ∃ (day bin : Nat) (any : Bool), e = .returned (.tuple #[.int .i64 (day : Int), .int .i64 (bin : Int), .bool any]) ∧ Best (burnF b bs p) bs.length 0 0 day bin any ∧ Below w.heap.size w w' := by
 have HA := Lib.hid hA
 obtain ⟨E0, oo, rfl, hcell⟩ := hA (by have := (barn_right hE).1; simp only [within, Bool.and_eq_true, decide_eq_true_eq] at this; omega)
 have HCE := Lib.hid hcell
 have HP := Lib.hid hP
 have HLL := Lib.hid hll
 have HE := Lib.hid hE
 clear hcell hP hll hE hA
 go_enter Try.func26, Try.ntmps26
 go_wp2_with fail
 go_loopw [7, 8, 9, 10] (fun v7 v8 v9 v10 wr => ∃ (k day bin : Nat) (any : Bool), v7 = .int .i64 (day : Int) ∧ v8 = .int .i64 (bin : Int) ∧ v9 = .bool any ∧ v10 = .int .i64 (k : Int) ∧ k ≤ bs.length ∧ Hid (Best (burnF b bs p) k 0 0 day bin any) ∧ Below w.heap.size w wr ∧ Holds wr w.heap.size 33 #[.int .i64 b.cool, .int .i64 b.gangs, .int .i64 b.r0, .int .i64 b.r1, .int .i64 b.r2, .int .i64 b.r3, .int .i64 b.r4, .int .i64 b.r5, .slice (some ⟨E0, oo, none⟩) bs.length c]) (fun _ _ _ v10 _ => bs.length - (intOf v10).toNat)
 case atStart => exact ⟨0, 0, 0, false, rfl, rfl, rfl, rfl, Nat.zero_le _, Lib.hid (best_start _ 0 (fun _ _ h => by omega)), zg, by (repeat first | (with_reducible first | assumption | apply Holds.set4 | apply Holds.set2 | apply Holds.putL | ((refine Holds.new' _ _ ?_); (simp; done)) | refine Holds.alloc ?_ _ | refine Holds.drew ?_ | refine Holds.far ?_ (by simp only [ne_eq]; omega) _) | rfl)⟩
 case round =>
  obtain ⟨k, day, bin, any, rfl, rfl, rfl, rfl, hk, hbest, hB, hH⟩ := hrel
  have HB := Lib.hid hB
  have HH := Lib.hid hH
  have kb0 : wr.cell? ⟨w.heap.size, 0, none⟩ = some (.int .i64 b.cool) := HH.out.cell 0
  have kb1 : wr.cell? ⟨w.heap.size, 1, none⟩ = some (.int .i64 b.gangs) := HH.out.cell 1
  have kb2 : wr.cell? ⟨w.heap.size, 2, none⟩ = some (.int .i64 b.r0) := HH.out.cell 2
  have kb3 : wr.cell? ⟨w.heap.size, 3, none⟩ = some (.int .i64 b.r1) := HH.out.cell 3
  have kb4 : wr.cell? ⟨w.heap.size, 4, none⟩ = some (.int .i64 b.r2) := HH.out.cell 4
  have kb5 : wr.cell? ⟨w.heap.size, 5, none⟩ = some (.int .i64 b.r3) := HH.out.cell 5
  have kb6 : wr.cell? ⟨w.heap.size, 6, none⟩ = some (.int .i64 b.r4) := HH.out.cell 6
  have kb7 : wr.cell? ⟨w.heap.size, 7, none⟩ = some (.int .i64 b.r5) := HH.out.cell 7
  have kb8 : wr.cell? ⟨w.heap.size, 8, none⟩ = some (.slice (some ⟨E0, oo, none⟩) bs.length c) := HH.out.cell 8
  have lb := HH.out.lt
  clear hB hH
  by_cases hlt : k < bs.length
  ·have hlt' : (k : Int) < bs.length := by omega
   obtain ⟨x, hx⟩ : ∃ z, bs[k]? = some z := ⟨_, List.getElem?_eq_getElem hlt⟩
   have KE1 : Hid (w.cell? ⟨E0, oo + k * 4 + 1, none⟩ = some (.int .i64 x.mark)) := Lib.hid (HCE.out k x hx 1 _ rfl)
   have KE2 : Hid (w.cell? ⟨E0, oo + k * 4 + 2, none⟩ = some (.int .i64 x.lo)) := Lib.hid (HCE.out k x hx 2 _ rfl)
   have KE3 : Hid (w.cell? ⟨E0, oo + k * 4 + 3, none⟩ = some (.int .i64 x.hi)) := Lib.hid (HCE.out k x hx 3 _ rfl)
   have lE0 : E0 < w.heap.size := World.block_lt_of_cell? w _ KE1.out
   have ke1 : wr.cell? ⟨E0, oo + k * 4 + 1, none⟩ = some (.int .i64 x.mark) := up_cell HB.out KE1.out
   have ke2 : wr.cell? ⟨E0, oo + k * 4 + 2, none⟩ = some (.int .i64 x.lo) := up_cell HB.out KE2.out
   have ke3 : wr.cell? ⟨E0, oo + k * 4 + 3, none⟩ = some (.int .i64 x.hi) := up_cell HB.out KE3.out
   have hs1 := HB.out.size
   obtain ⟨lo, hi, hlo, hhi, hlo6, hhi6, -⟩ := good_bin HE.out hx
   have hle : lo ≤ hi := by have h := List.all_eq_true.1 (barn_right HE.out).2.2.2.2.2.2 x (List.mem_of_getElem? hx); simp only [Bn.inOrder, decide_eq_true_eq] at h; omega
   have HX := Lib.hid hx
   have HLO := Lib.hid hlo
   have HHI := Lib.hid hhi
   rw [hlo] at ke2
   rw [hhi] at ke3
   clear hx hlo hhi
   go_wp2_with fail
   go_loopw [11, 7, 8, 9] (fun v11 v7 v8 v9 wr => ∃ (m day bin : Nat) (any : Bool), v11 = .int .i64 (m : Int) ∧ v7 = .int .i64 (day : Int) ∧ v8 = .int .i64 (bin : Int) ∧ v9 = .bool any ∧ lo ≤ m ∧ m ≤ hi + 1 ∧ Hid (Best (burnF b bs p) k m 0 day bin any) ∧ Below w.heap.size w wr ∧ Holds wr w.heap.size 33 #[.int .i64 b.cool, .int .i64 b.gangs, .int .i64 b.r0, .int .i64 b.r1, .int .i64 b.r2, .int .i64 b.r3, .int .i64 b.r4, .int .i64 b.r5, .slice (some ⟨E0, oo, none⟩) bs.length c]) (fun v11 _ _ _ _ => hi + 1 - (intOf v11).toNat)
   case atStart => exact ⟨lo, day, bin, any, rfl, rfl, rfl, rfl, Nat.le_refl _, by omega, Lib.hid (best_same hbest.out (Nat.le_refl _) (fun k' m' d' hs => by
     rcases hs with h1 | ⟨rfl, h1 | ⟨_, h1⟩⟩
     ·exact .inl (.inl h1)
     ·exact .inr (burn_off HX.out (.inl (by rw [HLO.out]; omega)))
     ·omega)), by first | exact HB.out | (repeat' (first | (with_reducible first | exact Below.refl _ _ | assumption | refine Below.alloc ?_ ?_ _ | refine Below.drew ?_ | refine Below.setCell ?_ ?_ _ | exact Nat.le_refl _) | omega | (simp only [World.size_alloc, World.size_setCell, World.size_drew]; omega) | (simp; omega) | (simp; done))), by first | exact HH.out | (repeat first | (with_reducible first | assumption | apply Holds.set4 | apply Holds.set2 | apply Holds.putL | ((refine Holds.new' _ _ ?_); (simp; done)) | refine Holds.alloc ?_ _ | refine Holds.drew ?_ | refine Holds.far ?_ (by simp only [ne_eq]; omega) _) | rfl)⟩
   case round =>
    clear hbest HB HH lb hs1 kb0 kb1 kb2 kb3 kb4 kb5 kb6 kb7 kb8 ke1 ke2 ke3
    rename World => w2
    obtain ⟨m, day, bin, any, rfl, rfl, rfl, rfl, hm0, hm1, hbest, hB, hH⟩ := hrel
    have HB := Lib.hid hB
    have HH := Lib.hid hH
    have kb0 : w2.cell? ⟨w.heap.size, 0, none⟩ = some (.int .i64 b.cool) := HH.out.cell 0
    have kb1 : w2.cell? ⟨w.heap.size, 1, none⟩ = some (.int .i64 b.gangs) := HH.out.cell 1
    have kb2 : w2.cell? ⟨w.heap.size, 2, none⟩ = some (.int .i64 b.r0) := HH.out.cell 2
    have kb3 : w2.cell? ⟨w.heap.size, 3, none⟩ = some (.int .i64 b.r1) := HH.out.cell 3
    have kb4 : w2.cell? ⟨w.heap.size, 4, none⟩ = some (.int .i64 b.r2) := HH.out.cell 4
    have kb5 : w2.cell? ⟨w.heap.size, 5, none⟩ = some (.int .i64 b.r3) := HH.out.cell 5
    have kb6 : w2.cell? ⟨w.heap.size, 6, none⟩ = some (.int .i64 b.r4) := HH.out.cell 6
    have kb7 : w2.cell? ⟨w.heap.size, 7, none⟩ = some (.int .i64 b.r5) := HH.out.cell 7
    have kb8 : w2.cell? ⟨w.heap.size, 8, none⟩ = some (.slice (some ⟨E0, oo, none⟩) bs.length c) := HH.out.cell 8
    have lb := HH.out.lt
    clear hB hH
    have ke1 : w2.cell? ⟨E0, oo + k * 4 + 1, none⟩ = some (.int .i64 x.mark) := up_cell HB.out KE1.out
    have ke2 : w2.cell? ⟨E0, oo + k * 4 + 2, none⟩ = some (.int .i64 x.lo) := up_cell HB.out KE2.out
    have ke3 : w2.cell? ⟨E0, oo + k * 4 + 3, none⟩ = some (.int .i64 x.hi) := up_cell HB.out KE3.out
    have hs1 := HB.out.size
    rw [HLO.out] at ke2
    rw [HHI.out] at ke3
    by_cases hlt2 : m ≤ hi
    ·have hlt2' : (m : Int) ≤ (hi : Int) := by omega
     have hm6 : m < 6 := by omega
     obtain ⟨W, hW⟩ : ∃ z, warmList b.cool (b.rise (m : Int)) k x.warm p = z := ⟨_, rfl⟩
     have HWL : Hid (W.length = p.length) := Lib.hid (by rw [← hW, warm_len])
     have HWE := Lib.hid hW
     clear hW
     go_wp2_with (go_at_call 25; refine (refWarmth_any b (some ⟨E0, oo, none⟩) c bs P q p _ (HA.out.up (by first | exact HB.out | (repeat' (first | (with_reducible first | exact Below.refl _ _ | assumption | refine Below.alloc ?_ ?_ _ | refine Below.drew ?_ | refine Below.setCell ?_ ?_ _ | exact Nat.le_refl _) | omega | (simp only [World.size_alloc, World.size_setCell, World.size_drew]; omega) | (simp; omega) | (simp; done))))) hl (HP.out.up (by first | exact HB.out | (repeat' (first | (with_reducible first | exact Below.refl _ _ | assumption | refine Below.alloc ?_ ?_ _ | refine Below.drew ?_ | refine Below.setCell ?_ ?_ _ | exact Nat.le_refl _) | omega | (simp only [World.size_alloc, World.size_setCell, World.size_drew]; omega) | (simp; omega) | (simp; done))))) hpl HLL.out HE.out k x HX.out m hm6).mono ?_; rw [HWE.out]; rintro e w3 ⟨WA, wc, rfl, hown, hb3⟩; have HB3 := Lib.hid (HB.out.trans (hb3.mono HB.out.size)); have HH3 := Lib.hid (HH.out.up hb3); have hs3 := HB3.out.size; have lb3 := HH3.out.lt; obtain ⟨A0, c0, ev, -, -, hIA⟩ := hown.at_; simp only [Value.slice.injEq] at ev; obtain ⟨rfl, -, -⟩ := ev; have HI3 := Lib.hid hIA; have hs23 := hb3.size; clear hown hIA)
     go_loopw [13, 7, 8, 9] (fun v13 v7 v8 v9 wr => ∃ (i day bin : Nat) (any : Bool), v13 = .int .i64 (i : Int) ∧ v7 = .int .i64 (day : Int) ∧ v8 = .int .i64 (bin : Int) ∧ v9 = .bool any ∧ i ≤ p.length ∧ Hid (Best (burnF b bs p) k m i day bin any) ∧ Below w3.heap.size w3 wr) (fun v13 _ _ _ _ => p.length - (intOf v13).toNat)
     case atStart => exact ⟨0, day, bin, any, rfl, rfl, rfl, rfl, Nat.zero_le _, hbest, zg⟩
     case round =>
      clear hbest HB HH lb hs1 kb0 kb1 kb2 kb3 kb4 kb5 kb6 kb7 kb8 ke1 ke2 ke3
      rename World => w4
      obtain ⟨i, day, bin, any, rfl, rfl, rfl, rfl, hi0, hbest, hb4⟩ := hrel
      have HB := Lib.hid (HB3.out.trans (hb4.mono HB3.out.size))
      have HH := Lib.hid (HH3.out.up hb4)
      have HI := Lib.hid (HI3.out.up hb4)
      have KB8 : Hid (w4.cell? ⟨w.heap.size, 8, none⟩ = some (.slice (some ⟨E0, oo, none⟩) bs.length c)) := Lib.hid (HH.out.cell 8)
      have lb := HH.out.lt
      have HB4 := Lib.hid hb4
      have hs34 := hb4.size
      clear hb4
      have KM : Hid (w4.cell? ⟨E0, oo + k * 4 + 1, none⟩ = some (.int .i64 x.mark)) := Lib.hid (up_cell HB.out KE1.out)
      have hs1 := HB.out.size
      have lE4 : E0 < w4.heap.size := by omega
      by_cases hlt3 : i < p.length
      ·have hlt3' : (i : Int) < p.length := by omega
       obtain ⟨g, hg⟩ : ∃ z, W[i]? = some z := ⟨_, List.getElem?_eq_getElem (by rw [HWL.out]; exact hlt3)⟩
       obtain ⟨B0, wo, rfl, hrow0⟩ := HI.out (by rw [HWL.out]; omega)
       have hrow := hrow0 i g hg
       have KG := Lib.hid hrow
       have lG := World.block_lt_of_cell? w4 _ hrow
       clear hrow hrow0
       have HBF : Hid (burnF b bs p k m i = decide (x.mark < g)) := Lib.hid (burn_at HX.out (by rw [HLO.out]; omega) (by rw [HHI.out]; omega) (by rw [HWE.out]; exact hg))
       by_cases hgm : x.mark < g
       ·have HBV : Hid (burnF b bs p k m i = true) := Lib.hid (HBF.out.trans (decide_eq_true hgm))
        cases any
        ·go_wp2_with fail
         rename_i Kc hKc
         have HRL := Lib.hid (show List.range' 50 20 = [50, 51, 52, 53, 54, 55, 56, 57, 58, 59, 60, 61, 62, 63, 64, 65, 66, 67, 68, 69] from rfl)
         refine wp_region_partsR 50 20 (by kernel_rfl) [some 50, some 51, some 52, some 53, some 54, some 55, some 56, some 57, some 58, some 59, some 60, some 61, some 62, some 63, some 64, some 65, some 66, some 67, some 68, some 69] (fun jq xq w' => match jq with
          | 0 => xq 50 = .slice (some ⟨B0, wo, none⟩) p.length wc
          | 1 => xq 51 = .int .i64 (i : Int)
          | 2 => xq 52 = .pointer (some ⟨B0, wo + i, none⟩)
          | 3 => xq 53 = .int .i64 g
          | 4 => xq 54 = .pointer (some ⟨w.heap.size, 8, none⟩)
          | 5 => xq 55 = .slice (some ⟨E0, oo, none⟩) bs.length c
          | 6 => xq 56 = .int .i64 (k : Int)
          | 7 => xq 57 = .pointer (some ⟨E0, oo + k * 4, none⟩)
          | 8 => xq 58 = .pointer (some ⟨E0, oo + k * 4 + 1, none⟩)
          | 9 => xq 59 = .int .i64 x.mark
          | 10 => xq 60 = .bool true
          | 11 => xq 61 = .bool true
          | 12 => xq 62 = .bool false
          | 13 => xq 63 = .bool true
          | 14 => xq 64 = .bool true
          | 15 => True
          | 16 => True
          | 17 => True
          | 18 => xq 68 = .bool true
          | 19 => xq 69 = .bool true
          | _ => True) [[50], [51], [52], [53], [54], [55], [56], [57], [58], [59], [60], [61], [62], [63], [64], [], [], [], [68], [69]] [] (Below w4.heap.size w4) (by kernel_rfl) (by kernel_rfl) (by rfl) ?_ ?_ (fun w' w'' hb h => h.trans (hb.mono h.size)) (Below.refl _ _) ?_ ?_ ?_
         ·intro jq xq xq' wqq h hv
          match jq, h, hv with
          | 0, h, hv => show xq' 50 = .slice (some ⟨B0, wo, none⟩) p.length wc; rw [← h 50 (by decide)]; exact hv
          | 1, h, hv => show xq' 51 = .int .i64 (i : Int); rw [← h 51 (by decide)]; exact hv
          | 2, h, hv => show xq' 52 = .pointer (some ⟨B0, wo + i, none⟩); rw [← h 52 (by decide)]; exact hv
          | 3, h, hv => show xq' 53 = .int .i64 g; rw [← h 53 (by decide)]; exact hv
          | 4, h, hv => show xq' 54 = .pointer (some ⟨w.heap.size, 8, none⟩); rw [← h 54 (by decide)]; exact hv
          | 5, h, hv => show xq' 55 = .slice (some ⟨E0, oo, none⟩) bs.length c; rw [← h 55 (by decide)]; exact hv
          | 6, h, hv => show xq' 56 = .int .i64 (k : Int); rw [← h 56 (by decide)]; exact hv
          | 7, h, hv => show xq' 57 = .pointer (some ⟨E0, oo + k * 4, none⟩); rw [← h 57 (by decide)]; exact hv
          | 8, h, hv => show xq' 58 = .pointer (some ⟨E0, oo + k * 4 + 1, none⟩); rw [← h 58 (by decide)]; exact hv
          | 9, h, hv => show xq' 59 = .int .i64 x.mark; rw [← h 59 (by decide)]; exact hv
          | 10, h, hv => show xq' 60 = .bool true; rw [← h 60 (by decide)]; exact hv
          | 11, h, hv => show xq' 61 = .bool true; rw [← h 61 (by decide)]; exact hv
          | 12, h, hv => show xq' 62 = .bool false; rw [← h 62 (by decide)]; exact hv
          | 13, h, hv => show xq' 63 = .bool true; rw [← h 63 (by decide)]; exact hv
          | 14, h, hv => show xq' 64 = .bool true; rw [← h 64 (by decide)]; exact hv
          | 15, h, hv => exact hv
          | 16, h, hv => exact hv
          | 17, h, hv => exact hv
          | 18, h, hv => show xq' 68 = .bool true; rw [← h 68 (by decide)]; exact hv
          | 19, h, hv => show xq' 69 = .bool true; rw [← h 69 (by decide)]; exact hv
          | _ + 20, _, _ => trivial
         ·intro jq xq wqq w' hb' hv
          match jq, hv with
          | 0, hv => exact hv
          | 1, hv => exact hv
          | 2, hv => exact hv
          | 3, hv => exact hv
          | 4, hv => exact hv
          | 5, hv => exact hv
          | 6, hv => exact hv
          | 7, hv => exact hv
          | 8, hv => exact hv
          | 9, hv => exact hv
          | 10, hv => exact hv
          | 11, hv => exact hv
          | 12, hv => exact hv
          | 13, hv => exact hv
          | 14, hv => exact hv
          | 15, hv => exact hv
          | 16, hv => exact hv
          | 17, hv => exact hv
          | 18, hv => exact hv
          | 19, hv => exact hv
          | _ + 20, _ => trivial
         ·intro jq hj
          match jq, hj with
          | 0, hj => exact absurd hj (by decide)
          | 1, hj => exact absurd hj (by decide)
          | 2, hj => exact absurd hj (by decide)
          | 3, hj => exact absurd hj (by decide)
          | 4, hj => exact absurd hj (by decide)
          | 5, hj => exact absurd hj (by decide)
          | 6, hj => exact absurd hj (by decide)
          | 7, hj => exact absurd hj (by decide)
          | 8, hj => exact absurd hj (by decide)
          | 9, hj => exact absurd hj (by decide)
          | 10, hj => exact absurd hj (by decide)
          | 11, hj => exact absurd hj (by decide)
          | 12, hj => exact absurd hj (by decide)
          | 13, hj => exact absurd hj (by decide)
          | 14, hj => exact absurd hj (by decide)
          | 15, hj => exact absurd hj (by decide)
          | 16, hj => exact absurd hj (by decide)
          | 17, hj => exact absurd hj (by decide)
          | 18, hj => exact absurd hj (by decide)
          | 19, hj => exact absurd hj (by decide)
          | _ + 20, _ => trivial
         ·refine ⟨?_, ?_, ?_, ?_, ?_, ?_, ?_, ?_, ?_, ?_, ?_, ?_, ?_, ?_, ?_, ?_, ?_, ?_, ?_, ?_, trivial⟩
          ·intro xq w1 hb1 hx K hK0
           have hK := fun v w' hb => hK0 v w' (.inl hb)
           clear hx hKc hK0
           simp only [runOf, setSlot, HRL.out, sr, Nat.reduceAdd, Nat.reduceEqDiff, if_true, if_false] at hK ⊢
           go_wp2_with (fail)
           exact hK _ _ (Below.refl _ _) rfl
          ·intro xq w1 hb1 hx K hK0
           have hK := fun v w' hb => hK0 v w' (.inl hb)
           clear hx hKc hK0
           simp only [runOf, setSlot, HRL.out, sr, Nat.reduceAdd, Nat.reduceEqDiff, if_true, if_false] at hK ⊢
           go_wp2_with (fail)
           exact hK _ _ (Below.refl _ _) rfl
          ·intro xq w1 hb1 hx K hK0
           have hK := fun v w' hb => hK0 v w' (.inl hb)
           have e50 : xq 50 = .slice (some ⟨B0, wo, none⟩) p.length wc := hx 0 (by rfl) (by rfl)
           have e51 : xq 51 = .int .i64 (i : Int) := hx 1 (by rfl) (by rfl)
           clear hx hKc hK0
           simp only [runOf, setSlot, HRL.out, sr, Nat.reduceAdd, Nat.reduceEqDiff, if_true, if_false] at hK ⊢
           simp only [e50, e51] at hK ⊢
           clear e50 e51
           go_wp2_with (fail)
           exact hK _ _ (Below.refl _ _) rfl
          ·intro xq w1 hb1 hx K hK0
           have hK := fun v w' hb => hK0 v w' (.inl hb)
           have e52 : xq 52 = .pointer (some ⟨B0, wo + i, none⟩) := hx 2 (by rfl) (by rfl)
           clear hx hKc hK0
           have q53 : w1.cell? ⟨B0, wo + i, none⟩ = some (.int .i64 g) := (hb1.cell (p := ⟨B0, wo + i, none⟩) lG).trans KG.out
           simp only [runOf, setSlot, HRL.out, sr, Nat.reduceAdd, Nat.reduceEqDiff, if_true, if_false] at hK ⊢
           simp only [e52] at hK ⊢
           clear e52
           go_wp2_with (fail)
           exact hK _ _ (Below.refl _ _) rfl
          ·intro xq w1 hb1 hx K hK0
           have hK := fun v w' hb => hK0 v w' (.inl hb)
           clear hx hKc hK0
           simp only [runOf, setSlot, HRL.out, sr, Nat.reduceAdd, Nat.reduceEqDiff, if_true, if_false] at hK ⊢
           go_wp2_with (fail)
           exact hK _ _ (Below.refl _ _) rfl
          ·intro xq w1 hb1 hx K hK0
           have hK := fun v w' hb => hK0 v w' (.inl hb)
           have e54 : xq 54 = .pointer (some ⟨w.heap.size, 8, none⟩) := hx 4 (by rfl) (by rfl)
           clear hx hKc hK0
           have q55 : w1.cell? ⟨w.heap.size, 8, none⟩ = some (.slice (some ⟨E0, oo, none⟩) bs.length c) := (hb1.cell (p := ⟨w.heap.size, 8, none⟩) lb).trans KB8.out
           simp only [runOf, setSlot, HRL.out, sr, Nat.reduceAdd, Nat.reduceEqDiff, if_true, if_false] at hK ⊢
           simp only [e54] at hK ⊢
           clear e54
           go_wp2_with (fail)
           exact hK _ _ (Below.refl _ _) rfl
          ·intro xq w1 hb1 hx K hK0
           have hK := fun v w' hb => hK0 v w' (.inl hb)
           clear hx hKc hK0
           simp only [runOf, setSlot, HRL.out, sr, Nat.reduceAdd, Nat.reduceEqDiff, if_true, if_false] at hK ⊢
           go_wp2_with (fail)
           exact hK _ _ (Below.refl _ _) rfl
          ·intro xq w1 hb1 hx K hK0
           have hK := fun v w' hb => hK0 v w' (.inl hb)
           have e55 : xq 55 = .slice (some ⟨E0, oo, none⟩) bs.length c := hx 5 (by rfl) (by rfl)
           have e56 : xq 56 = .int .i64 (k : Int) := hx 6 (by rfl) (by rfl)
           clear hx hKc hK0
           simp only [runOf, setSlot, HRL.out, sr, Nat.reduceAdd, Nat.reduceEqDiff, if_true, if_false] at hK ⊢
           simp only [e55, e56] at hK ⊢
           clear e55 e56
           go_wp2_with (fail)
           exact hK _ _ (Below.refl _ _) rfl
          ·intro xq w1 hb1 hx K hK0
           have hK := fun v w' hb => hK0 v w' (.inl hb)
           have e57 : xq 57 = .pointer (some ⟨E0, oo + k * 4, none⟩) := hx 7 (by rfl) (by rfl)
           clear hx hKc hK0
           simp only [runOf, setSlot, HRL.out, sr, Nat.reduceAdd, Nat.reduceEqDiff, if_true, if_false] at hK ⊢
           simp only [e57] at hK ⊢
           clear e57
           go_wp2_with (fail)
           exact hK _ _ (Below.refl _ _) rfl
          ·intro xq w1 hb1 hx K hK0
           have hK := fun v w' hb => hK0 v w' (.inl hb)
           have e58 : xq 58 = .pointer (some ⟨E0, oo + k * 4 + 1, none⟩) := hx 8 (by rfl) (by rfl)
           clear hx hKc hK0
           have q59 : w1.cell? ⟨E0, oo + k * 4 + 1, none⟩ = some (.int .i64 x.mark) := (hb1.cell (p := ⟨E0, oo + k * 4 + 1, none⟩) lE4).trans KM.out
           simp only [runOf, setSlot, HRL.out, sr, Nat.reduceAdd, Nat.reduceEqDiff, if_true, if_false] at hK ⊢
           simp only [e58] at hK ⊢
           clear e58
           go_wp2_with (fail)
           exact hK _ _ (Below.refl _ _) rfl
          ·intro xq w1 hb1 hx K hK0
           have hK := fun v w' hb => hK0 v w' (.inl hb)
           have e53 : xq 53 = .int .i64 g := hx 3 (by rfl) (by rfl)
           have e59 : xq 59 = .int .i64 x.mark := hx 9 (by rfl) (by rfl)
           clear hx hKc hK0
           simp only [runOf, setSlot, HRL.out, sr, Nat.reduceAdd, Nat.reduceEqDiff, if_true, if_false] at hK ⊢
           simp only [e53, e59] at hK ⊢
           clear e53 e59
           go_wp2_with (fail)
           first | exact hK _ _ (Below.refl _ _) rfl | exact hK _ _ (Below.refl _ _) (congrArg Value.bool (decide_eq_true (by omega)))
          ·intro xq w1 hb1 hx K hK0
           have hK := fun v w' hb => hK0 v w' (.inl hb)
           have e60 : xq 60 = .bool true := hx 10 (by rfl) (by rfl)
           clear hx hKc hK0
           simp only [runOf, setSlot, HRL.out, sr, Nat.reduceAdd, Nat.reduceEqDiff, if_true, if_false] at hK ⊢
           simp only [e60] at hK ⊢
           clear e60
           go_wp2_with (fail)
           exact hK _ _ (Below.refl _ _) rfl
          ·intro xq w1 hb1 hx K hK0
           have hK := fun v w' hb => hK0 v w' (.inl hb)
           have e61 : xq 61 = .bool true := hx 11 (by rfl) (by rfl)
           clear hx hKc hK0
           simp only [runOf, setSlot, HRL.out, sr, Nat.reduceAdd, Nat.reduceEqDiff, if_true, if_false] at hK ⊢
           simp only [e61] at hK ⊢
           clear e61
           go_wp2_with (fail)
           exact hK _ _ (Below.refl _ _) rfl
          ·intro xq w1 hb1 hx K hK0
           have hK := fun v w' hb => hK0 v w' (.inl hb)
           have e61 : xq 61 = .bool true := hx 11 (by rfl) (by rfl)
           have e62 : xq 62 = .bool false := hx 12 (by rfl) (by rfl)
           clear hx hKc hK0
           simp only [runOf, setSlot, HRL.out, sr, Nat.reduceAdd, Nat.reduceEqDiff, if_true, if_false] at hK ⊢
           simp only [e61, e62] at hK ⊢
           clear e61 e62
           go_wp2_with (fail)
           exact hK _ _ (Below.refl _ _) rfl
          ·intro xq w1 hb1 hx K hK0
           have hK := fun v w' hb => hK0 v w' (.inl hb)
           have e61 : xq 61 = .bool true := hx 11 (by rfl) (by rfl)
           have e63 : xq 63 = .bool true := hx 13 (by rfl) (by rfl)
           clear hx hKc hK0
           simp only [runOf, setSlot, HRL.out, sr, Nat.reduceAdd, Nat.reduceEqDiff, if_true, if_false] at hK ⊢
           simp only [e61, e63] at hK ⊢
           clear e61 e63
           go_wp2_with (fail)
           exact hK _ _ (Below.refl _ _) rfl
          ·intro xq w1 hb1 hx K hK0
           have hK := fun v w' hb => hK0 v w' (.inl hb)
           have e64 : xq 64 = .bool true := hx 14 (by rfl) (by rfl)
           clear hx hKc hK0
           simp only [runOf, setSlot, HRL.out, sr, Nat.reduceAdd, Nat.reduceEqDiff, if_true, if_false] at hK ⊢
           simp only [e64] at hK ⊢
           clear e64
           go_wp2_with (fail)
           exact hK _ _ (Below.refl _ _) trivial
          ·intro xq w1 hb1 hx K hK0
           have hK := fun v w' hb => hK0 v w' (.inl hb)
           have e64 : xq 64 = .bool true := hx 14 (by rfl) (by rfl)
           clear hx hKc hK0
           simp only [runOf, setSlot, HRL.out, sr, Nat.reduceAdd, Nat.reduceEqDiff, if_true, if_false] at hK ⊢
           simp only [e64] at hK ⊢
           clear e64
           go_wp2_with (fail)
           exact hK _ _ (Below.refl _ _) trivial
          ·intro xq w1 hb1 hx K hK0
           have hK := fun v w' hb => hK0 v w' (.inl hb)
           have e64 : xq 64 = .bool true := hx 14 (by rfl) (by rfl)
           clear hx hKc hK0
           simp only [runOf, setSlot, HRL.out, sr, Nat.reduceAdd, Nat.reduceEqDiff, if_true, if_false] at hK ⊢
           simp only [e64] at hK ⊢
           clear e64
           go_wp2_with (fail)
           exact hK _ _ (Below.refl _ _) trivial
          ·intro xq w1 hb1 hx K hK0
           have hK := fun v w' hb => hK0 v w' (.inl hb)
           have e61 : xq 61 = .bool true := hx 11 (by rfl) (by rfl)
           have e64 : xq 64 = .bool true := hx 14 (by rfl) (by rfl)
           clear hx hKc hK0
           simp only [runOf, setSlot, HRL.out, sr, Nat.reduceAdd, Nat.reduceEqDiff, if_true, if_false] at hK ⊢
           simp only [e61, e64] at hK ⊢
           clear e61 e64
           go_wp2_with (fail)
           exact hK _ _ (Below.refl _ _) rfl
          ·intro xq w1 hb1 hx K hK0
           have hK := fun v w' hb => hK0 v w' (.inl hb)
           have e61 : xq 61 = .bool true := hx 11 (by rfl) (by rfl)
           have e68 : xq 68 = .bool true := hx 18 (by rfl) (by rfl)
           clear hx hKc hK0
           simp only [runOf, setSlot, HRL.out, sr, Nat.reduceAdd, Nat.reduceEqDiff, if_true, if_false] at hK ⊢
           simp only [e61, e68] at hK ⊢
           clear e61 e68
           go_wp2_with (fail)
           exact hK _ _ (Below.refl _ _) rfl
         ·intro xq w1 hb1 hx
          have e50 : xq 50 = .slice (some ⟨B0, wo, none⟩) p.length wc := hx 0 (by decide)
          have e51 : xq 51 = .int .i64 (i : Int) := hx 1 (by decide)
          have e52 : xq 52 = .pointer (some ⟨B0, wo + i, none⟩) := hx 2 (by decide)
          have e53 : xq 53 = .int .i64 g := hx 3 (by decide)
          have e54 : xq 54 = .pointer (some ⟨w.heap.size, 8, none⟩) := hx 4 (by decide)
          have e55 : xq 55 = .slice (some ⟨E0, oo, none⟩) bs.length c := hx 5 (by decide)
          have e56 : xq 56 = .int .i64 (k : Int) := hx 6 (by decide)
          have e57 : xq 57 = .pointer (some ⟨E0, oo + k * 4, none⟩) := hx 7 (by decide)
          have e58 : xq 58 = .pointer (some ⟨E0, oo + k * 4 + 1, none⟩) := hx 8 (by decide)
          have e59 : xq 59 = .int .i64 x.mark := hx 9 (by decide)
          have e60 : xq 60 = .bool true := hx 10 (by decide)
          have e61 : xq 61 = .bool true := hx 11 (by decide)
          have e62 : xq 62 = .bool false := hx 12 (by decide)
          have e63 : xq 63 = .bool true := hx 13 (by decide)
          have e64 : xq 64 = .bool true := hx 14 (by decide)
          have e68 : xq 68 = .bool true := hx 18 (by decide)
          have e69 : xq 69 = .bool true := hx 19 (by decide)
          clear hx
          simp only [runOf, setSlot, HRL.out, sr, Nat.reduceAdd, Nat.reduceEqDiff, if_true, if_false]
          simp only [e50, e51, e52, e53, e54, e55, e56, e57, e58, e59, e60, e61, e62, e63, e64, e68, e69]
          clear e50 e51 e52 e53 e54 e55 e56 e57 e58 e59 e60 e61 e62 e63 e64 e68 e69
          refine hKc _ _ ?_
          go_wp2_with fail
          go_roundw
          case rel => exact ⟨i + 1, i, k, true, by go_num, rfl, rfl, rfl, hlt3, Lib.hid (best_take hbest.out HBV.out (.inl rfl)), HB4.out.trans (hb1.mono hs34)⟩
          case measure => first | (simp [intOf]; done) | (simp [intOf]; omega)
        ·by_cases hid : i < day
         ·have hid' : (i : Int) < day := by omega
          go_wp2_with fail
          rename_i Kc hKc
          have HRL := Lib.hid (show List.range' 50 20 = [50, 51, 52, 53, 54, 55, 56, 57, 58, 59, 60, 61, 62, 63, 64, 65, 66, 67, 68, 69] from rfl)
          refine wp_region_partsR 50 20 (by kernel_rfl) [some 50, some 51, some 52, some 53, some 54, some 55, some 56, some 57, some 58, some 59, some 60, some 61, some 62, some 63, some 64, some 65, some 66, some 67, some 68, some 69] (fun jq xq w' => match jq with
           | 0 => xq 50 = .slice (some ⟨B0, wo, none⟩) p.length wc
           | 1 => xq 51 = .int .i64 (i : Int)
           | 2 => xq 52 = .pointer (some ⟨B0, wo + i, none⟩)
           | 3 => xq 53 = .int .i64 g
           | 4 => xq 54 = .pointer (some ⟨w.heap.size, 8, none⟩)
           | 5 => xq 55 = .slice (some ⟨E0, oo, none⟩) bs.length c
           | 6 => xq 56 = .int .i64 (k : Int)
           | 7 => xq 57 = .pointer (some ⟨E0, oo + k * 4, none⟩)
           | 8 => xq 58 = .pointer (some ⟨E0, oo + k * 4 + 1, none⟩)
           | 9 => xq 59 = .int .i64 x.mark
           | 10 => xq 60 = .bool true
           | 11 => xq 61 = .bool true
           | 12 => xq 62 = .bool true
           | 13 => xq 63 = .bool false
           | 14 => xq 64 = .bool false
           | 15 => xq 65 = .int .i64 (i : Int)
           | 16 => xq 66 = .int .i64 (day : Int)
           | 17 => xq 67 = .bool true
           | 18 => xq 68 = .bool true
           | 19 => xq 69 = .bool true
           | _ => True) [[50], [51], [52], [53], [54], [55], [56], [57], [58], [59], [60], [61], [62], [63], [64], [65], [66], [67], [68], [69]] [] (Below w4.heap.size w4) (by kernel_rfl) (by kernel_rfl) (by rfl) ?_ ?_ (fun w' w'' hb h => h.trans (hb.mono h.size)) (Below.refl _ _) ?_ ?_ ?_
          ·intro jq xq xq' wqq h hv
           match jq, h, hv with
           | 0, h, hv => show xq' 50 = .slice (some ⟨B0, wo, none⟩) p.length wc; rw [← h 50 (by decide)]; exact hv
           | 1, h, hv => show xq' 51 = .int .i64 (i : Int); rw [← h 51 (by decide)]; exact hv
           | 2, h, hv => show xq' 52 = .pointer (some ⟨B0, wo + i, none⟩); rw [← h 52 (by decide)]; exact hv
           | 3, h, hv => show xq' 53 = .int .i64 g; rw [← h 53 (by decide)]; exact hv
           | 4, h, hv => show xq' 54 = .pointer (some ⟨w.heap.size, 8, none⟩); rw [← h 54 (by decide)]; exact hv
           | 5, h, hv => show xq' 55 = .slice (some ⟨E0, oo, none⟩) bs.length c; rw [← h 55 (by decide)]; exact hv
           | 6, h, hv => show xq' 56 = .int .i64 (k : Int); rw [← h 56 (by decide)]; exact hv
           | 7, h, hv => show xq' 57 = .pointer (some ⟨E0, oo + k * 4, none⟩); rw [← h 57 (by decide)]; exact hv
           | 8, h, hv => show xq' 58 = .pointer (some ⟨E0, oo + k * 4 + 1, none⟩); rw [← h 58 (by decide)]; exact hv
           | 9, h, hv => show xq' 59 = .int .i64 x.mark; rw [← h 59 (by decide)]; exact hv
           | 10, h, hv => show xq' 60 = .bool true; rw [← h 60 (by decide)]; exact hv
           | 11, h, hv => show xq' 61 = .bool true; rw [← h 61 (by decide)]; exact hv
           | 12, h, hv => show xq' 62 = .bool true; rw [← h 62 (by decide)]; exact hv
           | 13, h, hv => show xq' 63 = .bool false; rw [← h 63 (by decide)]; exact hv
           | 14, h, hv => show xq' 64 = .bool false; rw [← h 64 (by decide)]; exact hv
           | 15, h, hv => show xq' 65 = .int .i64 (i : Int); rw [← h 65 (by decide)]; exact hv
           | 16, h, hv => show xq' 66 = .int .i64 (day : Int); rw [← h 66 (by decide)]; exact hv
           | 17, h, hv => show xq' 67 = .bool true; rw [← h 67 (by decide)]; exact hv
           | 18, h, hv => show xq' 68 = .bool true; rw [← h 68 (by decide)]; exact hv
           | 19, h, hv => show xq' 69 = .bool true; rw [← h 69 (by decide)]; exact hv
           | _ + 20, _, _ => trivial
          ·intro jq xq wqq w' hb' hv
           match jq, hv with
           | 0, hv => exact hv
           | 1, hv => exact hv
           | 2, hv => exact hv
           | 3, hv => exact hv
           | 4, hv => exact hv
           | 5, hv => exact hv
           | 6, hv => exact hv
           | 7, hv => exact hv
           | 8, hv => exact hv
           | 9, hv => exact hv
           | 10, hv => exact hv
           | 11, hv => exact hv
           | 12, hv => exact hv
           | 13, hv => exact hv
           | 14, hv => exact hv
           | 15, hv => exact hv
           | 16, hv => exact hv
           | 17, hv => exact hv
           | 18, hv => exact hv
           | 19, hv => exact hv
           | _ + 20, _ => trivial
          ·intro jq hj
           match jq, hj with
           | 0, hj => exact absurd hj (by decide)
           | 1, hj => exact absurd hj (by decide)
           | 2, hj => exact absurd hj (by decide)
           | 3, hj => exact absurd hj (by decide)
           | 4, hj => exact absurd hj (by decide)
           | 5, hj => exact absurd hj (by decide)
           | 6, hj => exact absurd hj (by decide)
           | 7, hj => exact absurd hj (by decide)
           | 8, hj => exact absurd hj (by decide)
           | 9, hj => exact absurd hj (by decide)
           | 10, hj => exact absurd hj (by decide)
           | 11, hj => exact absurd hj (by decide)
           | 12, hj => exact absurd hj (by decide)
           | 13, hj => exact absurd hj (by decide)
           | 14, hj => exact absurd hj (by decide)
           | 15, hj => exact absurd hj (by decide)
           | 16, hj => exact absurd hj (by decide)
           | 17, hj => exact absurd hj (by decide)
           | 18, hj => exact absurd hj (by decide)
           | 19, hj => exact absurd hj (by decide)
           | _ + 20, _ => trivial
          ·refine ⟨?_, ?_, ?_, ?_, ?_, ?_, ?_, ?_, ?_, ?_, ?_, ?_, ?_, ?_, ?_, ?_, ?_, ?_, ?_, ?_, trivial⟩
           ·intro xq w1 hb1 hx K hK0
            have hK := fun v w' hb => hK0 v w' (.inl hb)
            clear hx hKc hK0
            simp only [runOf, setSlot, HRL.out, sr, Nat.reduceAdd, Nat.reduceEqDiff, if_true, if_false] at hK ⊢
            go_wp2_with (fail)
            exact hK _ _ (Below.refl _ _) rfl
           ·intro xq w1 hb1 hx K hK0
            have hK := fun v w' hb => hK0 v w' (.inl hb)
            clear hx hKc hK0
            simp only [runOf, setSlot, HRL.out, sr, Nat.reduceAdd, Nat.reduceEqDiff, if_true, if_false] at hK ⊢
            go_wp2_with (fail)
            exact hK _ _ (Below.refl _ _) rfl
           ·intro xq w1 hb1 hx K hK0
            have hK := fun v w' hb => hK0 v w' (.inl hb)
            have e50 : xq 50 = .slice (some ⟨B0, wo, none⟩) p.length wc := hx 0 (by rfl) (by rfl)
            have e51 : xq 51 = .int .i64 (i : Int) := hx 1 (by rfl) (by rfl)
            clear hx hKc hK0
            simp only [runOf, setSlot, HRL.out, sr, Nat.reduceAdd, Nat.reduceEqDiff, if_true, if_false] at hK ⊢
            simp only [e50, e51] at hK ⊢
            clear e50 e51
            go_wp2_with (fail)
            exact hK _ _ (Below.refl _ _) rfl
           ·intro xq w1 hb1 hx K hK0
            have hK := fun v w' hb => hK0 v w' (.inl hb)
            have e52 : xq 52 = .pointer (some ⟨B0, wo + i, none⟩) := hx 2 (by rfl) (by rfl)
            clear hx hKc hK0
            have q53 : w1.cell? ⟨B0, wo + i, none⟩ = some (.int .i64 g) := (hb1.cell (p := ⟨B0, wo + i, none⟩) lG).trans KG.out
            simp only [runOf, setSlot, HRL.out, sr, Nat.reduceAdd, Nat.reduceEqDiff, if_true, if_false] at hK ⊢
            simp only [e52] at hK ⊢
            clear e52
            go_wp2_with (fail)
            exact hK _ _ (Below.refl _ _) rfl
           ·intro xq w1 hb1 hx K hK0
            have hK := fun v w' hb => hK0 v w' (.inl hb)
            clear hx hKc hK0
            simp only [runOf, setSlot, HRL.out, sr, Nat.reduceAdd, Nat.reduceEqDiff, if_true, if_false] at hK ⊢
            go_wp2_with (fail)
            exact hK _ _ (Below.refl _ _) rfl
           ·intro xq w1 hb1 hx K hK0
            have hK := fun v w' hb => hK0 v w' (.inl hb)
            have e54 : xq 54 = .pointer (some ⟨w.heap.size, 8, none⟩) := hx 4 (by rfl) (by rfl)
            clear hx hKc hK0
            have q55 : w1.cell? ⟨w.heap.size, 8, none⟩ = some (.slice (some ⟨E0, oo, none⟩) bs.length c) := (hb1.cell (p := ⟨w.heap.size, 8, none⟩) lb).trans KB8.out
            simp only [runOf, setSlot, HRL.out, sr, Nat.reduceAdd, Nat.reduceEqDiff, if_true, if_false] at hK ⊢
            simp only [e54] at hK ⊢
            clear e54
            go_wp2_with (fail)
            exact hK _ _ (Below.refl _ _) rfl
           ·intro xq w1 hb1 hx K hK0
            have hK := fun v w' hb => hK0 v w' (.inl hb)
            clear hx hKc hK0
            simp only [runOf, setSlot, HRL.out, sr, Nat.reduceAdd, Nat.reduceEqDiff, if_true, if_false] at hK ⊢
            go_wp2_with (fail)
            exact hK _ _ (Below.refl _ _) rfl
           ·intro xq w1 hb1 hx K hK0
            have hK := fun v w' hb => hK0 v w' (.inl hb)
            have e55 : xq 55 = .slice (some ⟨E0, oo, none⟩) bs.length c := hx 5 (by rfl) (by rfl)
            have e56 : xq 56 = .int .i64 (k : Int) := hx 6 (by rfl) (by rfl)
            clear hx hKc hK0
            simp only [runOf, setSlot, HRL.out, sr, Nat.reduceAdd, Nat.reduceEqDiff, if_true, if_false] at hK ⊢
            simp only [e55, e56] at hK ⊢
            clear e55 e56
            go_wp2_with (fail)
            exact hK _ _ (Below.refl _ _) rfl
           ·intro xq w1 hb1 hx K hK0
            have hK := fun v w' hb => hK0 v w' (.inl hb)
            have e57 : xq 57 = .pointer (some ⟨E0, oo + k * 4, none⟩) := hx 7 (by rfl) (by rfl)
            clear hx hKc hK0
            simp only [runOf, setSlot, HRL.out, sr, Nat.reduceAdd, Nat.reduceEqDiff, if_true, if_false] at hK ⊢
            simp only [e57] at hK ⊢
            clear e57
            go_wp2_with (fail)
            exact hK _ _ (Below.refl _ _) rfl
           ·intro xq w1 hb1 hx K hK0
            have hK := fun v w' hb => hK0 v w' (.inl hb)
            have e58 : xq 58 = .pointer (some ⟨E0, oo + k * 4 + 1, none⟩) := hx 8 (by rfl) (by rfl)
            clear hx hKc hK0
            have q59 : w1.cell? ⟨E0, oo + k * 4 + 1, none⟩ = some (.int .i64 x.mark) := (hb1.cell (p := ⟨E0, oo + k * 4 + 1, none⟩) lE4).trans KM.out
            simp only [runOf, setSlot, HRL.out, sr, Nat.reduceAdd, Nat.reduceEqDiff, if_true, if_false] at hK ⊢
            simp only [e58] at hK ⊢
            clear e58
            go_wp2_with (fail)
            exact hK _ _ (Below.refl _ _) rfl
           ·intro xq w1 hb1 hx K hK0
            have hK := fun v w' hb => hK0 v w' (.inl hb)
            have e53 : xq 53 = .int .i64 g := hx 3 (by rfl) (by rfl)
            have e59 : xq 59 = .int .i64 x.mark := hx 9 (by rfl) (by rfl)
            clear hx hKc hK0
            simp only [runOf, setSlot, HRL.out, sr, Nat.reduceAdd, Nat.reduceEqDiff, if_true, if_false] at hK ⊢
            simp only [e53, e59] at hK ⊢
            clear e53 e59
            go_wp2_with (fail)
            first | exact hK _ _ (Below.refl _ _) rfl | exact hK _ _ (Below.refl _ _) (congrArg Value.bool (decide_eq_true (by omega)))
           ·intro xq w1 hb1 hx K hK0
            have hK := fun v w' hb => hK0 v w' (.inl hb)
            have e60 : xq 60 = .bool true := hx 10 (by rfl) (by rfl)
            clear hx hKc hK0
            simp only [runOf, setSlot, HRL.out, sr, Nat.reduceAdd, Nat.reduceEqDiff, if_true, if_false] at hK ⊢
            simp only [e60] at hK ⊢
            clear e60
            go_wp2_with (fail)
            exact hK _ _ (Below.refl _ _) rfl
           ·intro xq w1 hb1 hx K hK0
            have hK := fun v w' hb => hK0 v w' (.inl hb)
            have e61 : xq 61 = .bool true := hx 11 (by rfl) (by rfl)
            clear hx hKc hK0
            simp only [runOf, setSlot, HRL.out, sr, Nat.reduceAdd, Nat.reduceEqDiff, if_true, if_false] at hK ⊢
            simp only [e61] at hK ⊢
            clear e61
            go_wp2_with (fail)
            exact hK _ _ (Below.refl _ _) rfl
           ·intro xq w1 hb1 hx K hK0
            have hK := fun v w' hb => hK0 v w' (.inl hb)
            have e61 : xq 61 = .bool true := hx 11 (by rfl) (by rfl)
            have e62 : xq 62 = .bool true := hx 12 (by rfl) (by rfl)
            clear hx hKc hK0
            simp only [runOf, setSlot, HRL.out, sr, Nat.reduceAdd, Nat.reduceEqDiff, if_true, if_false] at hK ⊢
            simp only [e61, e62] at hK ⊢
            clear e61 e62
            go_wp2_with (fail)
            exact hK _ _ (Below.refl _ _) rfl
           ·intro xq w1 hb1 hx K hK0
            have hK := fun v w' hb => hK0 v w' (.inl hb)
            have e61 : xq 61 = .bool true := hx 11 (by rfl) (by rfl)
            have e63 : xq 63 = .bool false := hx 13 (by rfl) (by rfl)
            clear hx hKc hK0
            simp only [runOf, setSlot, HRL.out, sr, Nat.reduceAdd, Nat.reduceEqDiff, if_true, if_false] at hK ⊢
            simp only [e61, e63] at hK ⊢
            clear e61 e63
            go_wp2_with (fail)
            exact hK _ _ (Below.refl _ _) rfl
           ·intro xq w1 hb1 hx K hK0
            have hK := fun v w' hb => hK0 v w' (.inl hb)
            have e64 : xq 64 = .bool false := hx 14 (by rfl) (by rfl)
            clear hx hKc hK0
            simp only [runOf, setSlot, HRL.out, sr, Nat.reduceAdd, Nat.reduceEqDiff, if_true, if_false] at hK ⊢
            simp only [e64] at hK ⊢
            clear e64
            go_wp2_with (fail)
            exact hK _ _ (Below.refl _ _) rfl
           ·intro xq w1 hb1 hx K hK0
            have hK := fun v w' hb => hK0 v w' (.inl hb)
            have e64 : xq 64 = .bool false := hx 14 (by rfl) (by rfl)
            clear hx hKc hK0
            simp only [runOf, setSlot, HRL.out, sr, Nat.reduceAdd, Nat.reduceEqDiff, if_true, if_false] at hK ⊢
            simp only [e64] at hK ⊢
            clear e64
            go_wp2_with (fail)
            exact hK _ _ (Below.refl _ _) rfl
           ·intro xq w1 hb1 hx K hK0
            have hK := fun v w' hb => hK0 v w' (.inl hb)
            have e64 : xq 64 = .bool false := hx 14 (by rfl) (by rfl)
            have e65 : xq 65 = .int .i64 (i : Int) := hx 15 (by rfl) (by rfl)
            have e66 : xq 66 = .int .i64 (day : Int) := hx 16 (by rfl) (by rfl)
            clear hx hKc hK0
            simp only [runOf, setSlot, HRL.out, sr, Nat.reduceAdd, Nat.reduceEqDiff, if_true, if_false] at hK ⊢
            simp only [e64, e65, e66] at hK ⊢
            clear e64 e65 e66
            go_wp2_with (fail)
            first | exact hK _ _ (Below.refl _ _) rfl | exact hK _ _ (Below.refl _ _) (congrArg Value.bool (decide_eq_true (by omega)))
           ·intro xq w1 hb1 hx K hK0
            have hK := fun v w' hb => hK0 v w' (.inl hb)
            have e61 : xq 61 = .bool true := hx 11 (by rfl) (by rfl)
            have e64 : xq 64 = .bool false := hx 14 (by rfl) (by rfl)
            have e67 : xq 67 = .bool true := hx 17 (by rfl) (by rfl)
            clear hx hKc hK0
            simp only [runOf, setSlot, HRL.out, sr, Nat.reduceAdd, Nat.reduceEqDiff, if_true, if_false] at hK ⊢
            simp only [e61, e64, e67] at hK ⊢
            clear e61 e64 e67
            go_wp2_with (fail)
            exact hK _ _ (Below.refl _ _) rfl
           ·intro xq w1 hb1 hx K hK0
            have hK := fun v w' hb => hK0 v w' (.inl hb)
            have e61 : xq 61 = .bool true := hx 11 (by rfl) (by rfl)
            have e68 : xq 68 = .bool true := hx 18 (by rfl) (by rfl)
            clear hx hKc hK0
            simp only [runOf, setSlot, HRL.out, sr, Nat.reduceAdd, Nat.reduceEqDiff, if_true, if_false] at hK ⊢
            simp only [e61, e68] at hK ⊢
            clear e61 e68
            go_wp2_with (fail)
            exact hK _ _ (Below.refl _ _) rfl
          ·intro xq w1 hb1 hx
           have e50 : xq 50 = .slice (some ⟨B0, wo, none⟩) p.length wc := hx 0 (by decide)
           have e51 : xq 51 = .int .i64 (i : Int) := hx 1 (by decide)
           have e52 : xq 52 = .pointer (some ⟨B0, wo + i, none⟩) := hx 2 (by decide)
           have e53 : xq 53 = .int .i64 g := hx 3 (by decide)
           have e54 : xq 54 = .pointer (some ⟨w.heap.size, 8, none⟩) := hx 4 (by decide)
           have e55 : xq 55 = .slice (some ⟨E0, oo, none⟩) bs.length c := hx 5 (by decide)
           have e56 : xq 56 = .int .i64 (k : Int) := hx 6 (by decide)
           have e57 : xq 57 = .pointer (some ⟨E0, oo + k * 4, none⟩) := hx 7 (by decide)
           have e58 : xq 58 = .pointer (some ⟨E0, oo + k * 4 + 1, none⟩) := hx 8 (by decide)
           have e59 : xq 59 = .int .i64 x.mark := hx 9 (by decide)
           have e60 : xq 60 = .bool true := hx 10 (by decide)
           have e61 : xq 61 = .bool true := hx 11 (by decide)
           have e62 : xq 62 = .bool true := hx 12 (by decide)
           have e63 : xq 63 = .bool false := hx 13 (by decide)
           have e64 : xq 64 = .bool false := hx 14 (by decide)
           have e65 : xq 65 = .int .i64 (i : Int) := hx 15 (by decide)
           have e66 : xq 66 = .int .i64 (day : Int) := hx 16 (by decide)
           have e67 : xq 67 = .bool true := hx 17 (by decide)
           have e68 : xq 68 = .bool true := hx 18 (by decide)
           have e69 : xq 69 = .bool true := hx 19 (by decide)
           clear hx
           simp only [runOf, setSlot, HRL.out, sr, Nat.reduceAdd, Nat.reduceEqDiff, if_true, if_false]
           simp only [e50, e51, e52, e53, e54, e55, e56, e57, e58, e59, e60, e61, e62, e63, e64, e65, e66, e67, e68, e69]
           clear e50 e51 e52 e53 e54 e55 e56 e57 e58 e59 e60 e61 e62 e63 e64 e65 e66 e67 e68 e69
           refine hKc _ _ ?_
           go_wp2_with fail
           go_roundw
           case rel => exact ⟨i + 1, i, k, true, by go_num, rfl, rfl, rfl, hlt3, Lib.hid (best_take hbest.out HBV.out (.inr (by omega))), HB4.out.trans (hb1.mono hs34)⟩
           case measure => first | (simp [intOf]; done) | (simp [intOf]; omega)
         ·have hid' : (day : Int) ≤ i := by omega
          go_wp2_with fail
          rename_i Kc hKc
          have HRL := Lib.hid (show List.range' 50 20 = [50, 51, 52, 53, 54, 55, 56, 57, 58, 59, 60, 61, 62, 63, 64, 65, 66, 67, 68, 69] from rfl)
          refine wp_region_partsR 50 20 (by kernel_rfl) [some 50, some 51, some 52, some 53, some 54, some 55, some 56, some 57, some 58, some 59, some 60, some 61, some 62, some 63, some 64, some 65, some 66, some 67, some 68, some 69] (fun jq xq w' => match jq with
           | 0 => xq 50 = .slice (some ⟨B0, wo, none⟩) p.length wc
           | 1 => xq 51 = .int .i64 (i : Int)
           | 2 => xq 52 = .pointer (some ⟨B0, wo + i, none⟩)
           | 3 => xq 53 = .int .i64 g
           | 4 => xq 54 = .pointer (some ⟨w.heap.size, 8, none⟩)
           | 5 => xq 55 = .slice (some ⟨E0, oo, none⟩) bs.length c
           | 6 => xq 56 = .int .i64 (k : Int)
           | 7 => xq 57 = .pointer (some ⟨E0, oo + k * 4, none⟩)
           | 8 => xq 58 = .pointer (some ⟨E0, oo + k * 4 + 1, none⟩)
           | 9 => xq 59 = .int .i64 x.mark
           | 10 => xq 60 = .bool true
           | 11 => xq 61 = .bool true
           | 12 => xq 62 = .bool true
           | 13 => xq 63 = .bool false
           | 14 => xq 64 = .bool false
           | 15 => xq 65 = .int .i64 (i : Int)
           | 16 => xq 66 = .int .i64 (day : Int)
           | 17 => xq 67 = .bool false
           | 18 => xq 68 = .bool false
           | 19 => xq 69 = .bool false
           | _ => True) [[50], [51], [52], [53], [54], [55], [56], [57], [58], [59], [60], [61], [62], [63], [64], [65], [66], [67], [68], [69]] [] (Below w4.heap.size w4) (by kernel_rfl) (by kernel_rfl) (by rfl) ?_ ?_ (fun w' w'' hb h => h.trans (hb.mono h.size)) (Below.refl _ _) ?_ ?_ ?_
          ·intro jq xq xq' wqq h hv
           match jq, h, hv with
           | 0, h, hv => show xq' 50 = .slice (some ⟨B0, wo, none⟩) p.length wc; rw [← h 50 (by decide)]; exact hv
           | 1, h, hv => show xq' 51 = .int .i64 (i : Int); rw [← h 51 (by decide)]; exact hv
           | 2, h, hv => show xq' 52 = .pointer (some ⟨B0, wo + i, none⟩); rw [← h 52 (by decide)]; exact hv
           | 3, h, hv => show xq' 53 = .int .i64 g; rw [← h 53 (by decide)]; exact hv
           | 4, h, hv => show xq' 54 = .pointer (some ⟨w.heap.size, 8, none⟩); rw [← h 54 (by decide)]; exact hv
           | 5, h, hv => show xq' 55 = .slice (some ⟨E0, oo, none⟩) bs.length c; rw [← h 55 (by decide)]; exact hv
           | 6, h, hv => show xq' 56 = .int .i64 (k : Int); rw [← h 56 (by decide)]; exact hv
           | 7, h, hv => show xq' 57 = .pointer (some ⟨E0, oo + k * 4, none⟩); rw [← h 57 (by decide)]; exact hv
           | 8, h, hv => show xq' 58 = .pointer (some ⟨E0, oo + k * 4 + 1, none⟩); rw [← h 58 (by decide)]; exact hv
           | 9, h, hv => show xq' 59 = .int .i64 x.mark; rw [← h 59 (by decide)]; exact hv
           | 10, h, hv => show xq' 60 = .bool true; rw [← h 60 (by decide)]; exact hv
           | 11, h, hv => show xq' 61 = .bool true; rw [← h 61 (by decide)]; exact hv
           | 12, h, hv => show xq' 62 = .bool true; rw [← h 62 (by decide)]; exact hv
           | 13, h, hv => show xq' 63 = .bool false; rw [← h 63 (by decide)]; exact hv
           | 14, h, hv => show xq' 64 = .bool false; rw [← h 64 (by decide)]; exact hv
           | 15, h, hv => show xq' 65 = .int .i64 (i : Int); rw [← h 65 (by decide)]; exact hv
           | 16, h, hv => show xq' 66 = .int .i64 (day : Int); rw [← h 66 (by decide)]; exact hv
           | 17, h, hv => show xq' 67 = .bool false; rw [← h 67 (by decide)]; exact hv
           | 18, h, hv => show xq' 68 = .bool false; rw [← h 68 (by decide)]; exact hv
           | 19, h, hv => show xq' 69 = .bool false; rw [← h 69 (by decide)]; exact hv
           | _ + 20, _, _ => trivial
          ·intro jq xq wqq w' hb' hv
           match jq, hv with
           | 0, hv => exact hv
           | 1, hv => exact hv
           | 2, hv => exact hv
           | 3, hv => exact hv
           | 4, hv => exact hv
           | 5, hv => exact hv
           | 6, hv => exact hv
           | 7, hv => exact hv
           | 8, hv => exact hv
           | 9, hv => exact hv
           | 10, hv => exact hv
           | 11, hv => exact hv
           | 12, hv => exact hv
           | 13, hv => exact hv
           | 14, hv => exact hv
           | 15, hv => exact hv
           | 16, hv => exact hv
           | 17, hv => exact hv
           | 18, hv => exact hv
           | 19, hv => exact hv
           | _ + 20, _ => trivial
          ·intro jq hj
           match jq, hj with
           | 0, hj => exact absurd hj (by decide)
           | 1, hj => exact absurd hj (by decide)
           | 2, hj => exact absurd hj (by decide)
           | 3, hj => exact absurd hj (by decide)
           | 4, hj => exact absurd hj (by decide)
           | 5, hj => exact absurd hj (by decide)
           | 6, hj => exact absurd hj (by decide)
           | 7, hj => exact absurd hj (by decide)
           | 8, hj => exact absurd hj (by decide)
           | 9, hj => exact absurd hj (by decide)
           | 10, hj => exact absurd hj (by decide)
           | 11, hj => exact absurd hj (by decide)
           | 12, hj => exact absurd hj (by decide)
           | 13, hj => exact absurd hj (by decide)
           | 14, hj => exact absurd hj (by decide)
           | 15, hj => exact absurd hj (by decide)
           | 16, hj => exact absurd hj (by decide)
           | 17, hj => exact absurd hj (by decide)
           | 18, hj => exact absurd hj (by decide)
           | 19, hj => exact absurd hj (by decide)
           | _ + 20, _ => trivial
          ·refine ⟨?_, ?_, ?_, ?_, ?_, ?_, ?_, ?_, ?_, ?_, ?_, ?_, ?_, ?_, ?_, ?_, ?_, ?_, ?_, ?_, trivial⟩
           ·intro xq w1 hb1 hx K hK0
            have hK := fun v w' hb => hK0 v w' (.inl hb)
            clear hx hKc hK0
            simp only [runOf, setSlot, HRL.out, sr, Nat.reduceAdd, Nat.reduceEqDiff, if_true, if_false] at hK ⊢
            go_wp2_with (fail)
            exact hK _ _ (Below.refl _ _) rfl
           ·intro xq w1 hb1 hx K hK0
            have hK := fun v w' hb => hK0 v w' (.inl hb)
            clear hx hKc hK0
            simp only [runOf, setSlot, HRL.out, sr, Nat.reduceAdd, Nat.reduceEqDiff, if_true, if_false] at hK ⊢
            go_wp2_with (fail)
            exact hK _ _ (Below.refl _ _) rfl
           ·intro xq w1 hb1 hx K hK0
            have hK := fun v w' hb => hK0 v w' (.inl hb)
            have e50 : xq 50 = .slice (some ⟨B0, wo, none⟩) p.length wc := hx 0 (by rfl) (by rfl)
            have e51 : xq 51 = .int .i64 (i : Int) := hx 1 (by rfl) (by rfl)
            clear hx hKc hK0
            simp only [runOf, setSlot, HRL.out, sr, Nat.reduceAdd, Nat.reduceEqDiff, if_true, if_false] at hK ⊢
            simp only [e50, e51] at hK ⊢
            clear e50 e51
            go_wp2_with (fail)
            exact hK _ _ (Below.refl _ _) rfl
           ·intro xq w1 hb1 hx K hK0
            have hK := fun v w' hb => hK0 v w' (.inl hb)
            have e52 : xq 52 = .pointer (some ⟨B0, wo + i, none⟩) := hx 2 (by rfl) (by rfl)
            clear hx hKc hK0
            have q53 : w1.cell? ⟨B0, wo + i, none⟩ = some (.int .i64 g) := (hb1.cell (p := ⟨B0, wo + i, none⟩) lG).trans KG.out
            simp only [runOf, setSlot, HRL.out, sr, Nat.reduceAdd, Nat.reduceEqDiff, if_true, if_false] at hK ⊢
            simp only [e52] at hK ⊢
            clear e52
            go_wp2_with (fail)
            exact hK _ _ (Below.refl _ _) rfl
           ·intro xq w1 hb1 hx K hK0
            have hK := fun v w' hb => hK0 v w' (.inl hb)
            clear hx hKc hK0
            simp only [runOf, setSlot, HRL.out, sr, Nat.reduceAdd, Nat.reduceEqDiff, if_true, if_false] at hK ⊢
            go_wp2_with (fail)
            exact hK _ _ (Below.refl _ _) rfl
           ·intro xq w1 hb1 hx K hK0
            have hK := fun v w' hb => hK0 v w' (.inl hb)
            have e54 : xq 54 = .pointer (some ⟨w.heap.size, 8, none⟩) := hx 4 (by rfl) (by rfl)
            clear hx hKc hK0
            have q55 : w1.cell? ⟨w.heap.size, 8, none⟩ = some (.slice (some ⟨E0, oo, none⟩) bs.length c) := (hb1.cell (p := ⟨w.heap.size, 8, none⟩) lb).trans KB8.out
            simp only [runOf, setSlot, HRL.out, sr, Nat.reduceAdd, Nat.reduceEqDiff, if_true, if_false] at hK ⊢
            simp only [e54] at hK ⊢
            clear e54
            go_wp2_with (fail)
            exact hK _ _ (Below.refl _ _) rfl
           ·intro xq w1 hb1 hx K hK0
            have hK := fun v w' hb => hK0 v w' (.inl hb)
            clear hx hKc hK0
            simp only [runOf, setSlot, HRL.out, sr, Nat.reduceAdd, Nat.reduceEqDiff, if_true, if_false] at hK ⊢
            go_wp2_with (fail)
            exact hK _ _ (Below.refl _ _) rfl
           ·intro xq w1 hb1 hx K hK0
            have hK := fun v w' hb => hK0 v w' (.inl hb)
            have e55 : xq 55 = .slice (some ⟨E0, oo, none⟩) bs.length c := hx 5 (by rfl) (by rfl)
            have e56 : xq 56 = .int .i64 (k : Int) := hx 6 (by rfl) (by rfl)
            clear hx hKc hK0
            simp only [runOf, setSlot, HRL.out, sr, Nat.reduceAdd, Nat.reduceEqDiff, if_true, if_false] at hK ⊢
            simp only [e55, e56] at hK ⊢
            clear e55 e56
            go_wp2_with (fail)
            exact hK _ _ (Below.refl _ _) rfl
           ·intro xq w1 hb1 hx K hK0
            have hK := fun v w' hb => hK0 v w' (.inl hb)
            have e57 : xq 57 = .pointer (some ⟨E0, oo + k * 4, none⟩) := hx 7 (by rfl) (by rfl)
            clear hx hKc hK0
            simp only [runOf, setSlot, HRL.out, sr, Nat.reduceAdd, Nat.reduceEqDiff, if_true, if_false] at hK ⊢
            simp only [e57] at hK ⊢
            clear e57
            go_wp2_with (fail)
            exact hK _ _ (Below.refl _ _) rfl
           ·intro xq w1 hb1 hx K hK0
            have hK := fun v w' hb => hK0 v w' (.inl hb)
            have e58 : xq 58 = .pointer (some ⟨E0, oo + k * 4 + 1, none⟩) := hx 8 (by rfl) (by rfl)
            clear hx hKc hK0
            have q59 : w1.cell? ⟨E0, oo + k * 4 + 1, none⟩ = some (.int .i64 x.mark) := (hb1.cell (p := ⟨E0, oo + k * 4 + 1, none⟩) lE4).trans KM.out
            simp only [runOf, setSlot, HRL.out, sr, Nat.reduceAdd, Nat.reduceEqDiff, if_true, if_false] at hK ⊢
            simp only [e58] at hK ⊢
            clear e58
            go_wp2_with (fail)
            exact hK _ _ (Below.refl _ _) rfl
           ·intro xq w1 hb1 hx K hK0
            have hK := fun v w' hb => hK0 v w' (.inl hb)
            have e53 : xq 53 = .int .i64 g := hx 3 (by rfl) (by rfl)
            have e59 : xq 59 = .int .i64 x.mark := hx 9 (by rfl) (by rfl)
            clear hx hKc hK0
            simp only [runOf, setSlot, HRL.out, sr, Nat.reduceAdd, Nat.reduceEqDiff, if_true, if_false] at hK ⊢
            simp only [e53, e59] at hK ⊢
            clear e53 e59
            go_wp2_with (fail)
            first | exact hK _ _ (Below.refl _ _) rfl | exact hK _ _ (Below.refl _ _) (congrArg Value.bool (decide_eq_true (by omega)))
           ·intro xq w1 hb1 hx K hK0
            have hK := fun v w' hb => hK0 v w' (.inl hb)
            have e60 : xq 60 = .bool true := hx 10 (by rfl) (by rfl)
            clear hx hKc hK0
            simp only [runOf, setSlot, HRL.out, sr, Nat.reduceAdd, Nat.reduceEqDiff, if_true, if_false] at hK ⊢
            simp only [e60] at hK ⊢
            clear e60
            go_wp2_with (fail)
            exact hK _ _ (Below.refl _ _) rfl
           ·intro xq w1 hb1 hx K hK0
            have hK := fun v w' hb => hK0 v w' (.inl hb)
            have e61 : xq 61 = .bool true := hx 11 (by rfl) (by rfl)
            clear hx hKc hK0
            simp only [runOf, setSlot, HRL.out, sr, Nat.reduceAdd, Nat.reduceEqDiff, if_true, if_false] at hK ⊢
            simp only [e61] at hK ⊢
            clear e61
            go_wp2_with (fail)
            exact hK _ _ (Below.refl _ _) rfl
           ·intro xq w1 hb1 hx K hK0
            have hK := fun v w' hb => hK0 v w' (.inl hb)
            have e61 : xq 61 = .bool true := hx 11 (by rfl) (by rfl)
            have e62 : xq 62 = .bool true := hx 12 (by rfl) (by rfl)
            clear hx hKc hK0
            simp only [runOf, setSlot, HRL.out, sr, Nat.reduceAdd, Nat.reduceEqDiff, if_true, if_false] at hK ⊢
            simp only [e61, e62] at hK ⊢
            clear e61 e62
            go_wp2_with (fail)
            exact hK _ _ (Below.refl _ _) rfl
           ·intro xq w1 hb1 hx K hK0
            have hK := fun v w' hb => hK0 v w' (.inl hb)
            have e61 : xq 61 = .bool true := hx 11 (by rfl) (by rfl)
            have e63 : xq 63 = .bool false := hx 13 (by rfl) (by rfl)
            clear hx hKc hK0
            simp only [runOf, setSlot, HRL.out, sr, Nat.reduceAdd, Nat.reduceEqDiff, if_true, if_false] at hK ⊢
            simp only [e61, e63] at hK ⊢
            clear e61 e63
            go_wp2_with (fail)
            exact hK _ _ (Below.refl _ _) rfl
           ·intro xq w1 hb1 hx K hK0
            have hK := fun v w' hb => hK0 v w' (.inl hb)
            have e64 : xq 64 = .bool false := hx 14 (by rfl) (by rfl)
            clear hx hKc hK0
            simp only [runOf, setSlot, HRL.out, sr, Nat.reduceAdd, Nat.reduceEqDiff, if_true, if_false] at hK ⊢
            simp only [e64] at hK ⊢
            clear e64
            go_wp2_with (fail)
            exact hK _ _ (Below.refl _ _) rfl
           ·intro xq w1 hb1 hx K hK0
            have hK := fun v w' hb => hK0 v w' (.inl hb)
            have e64 : xq 64 = .bool false := hx 14 (by rfl) (by rfl)
            clear hx hKc hK0
            simp only [runOf, setSlot, HRL.out, sr, Nat.reduceAdd, Nat.reduceEqDiff, if_true, if_false] at hK ⊢
            simp only [e64] at hK ⊢
            clear e64
            go_wp2_with (fail)
            exact hK _ _ (Below.refl _ _) rfl
           ·intro xq w1 hb1 hx K hK0
            have hK := fun v w' hb => hK0 v w' (.inl hb)
            have e64 : xq 64 = .bool false := hx 14 (by rfl) (by rfl)
            have e65 : xq 65 = .int .i64 (i : Int) := hx 15 (by rfl) (by rfl)
            have e66 : xq 66 = .int .i64 (day : Int) := hx 16 (by rfl) (by rfl)
            clear hx hKc hK0
            simp only [runOf, setSlot, HRL.out, sr, Nat.reduceAdd, Nat.reduceEqDiff, if_true, if_false] at hK ⊢
            simp only [e64, e65, e66] at hK ⊢
            clear e64 e65 e66
            go_wp2_with (fail)
            first | exact hK _ _ (Below.refl _ _) rfl | exact hK _ _ (Below.refl _ _) (congrArg Value.bool (decide_eq_false (by omega)))
           ·intro xq w1 hb1 hx K hK0
            have hK := fun v w' hb => hK0 v w' (.inl hb)
            have e61 : xq 61 = .bool true := hx 11 (by rfl) (by rfl)
            have e64 : xq 64 = .bool false := hx 14 (by rfl) (by rfl)
            have e67 : xq 67 = .bool false := hx 17 (by rfl) (by rfl)
            clear hx hKc hK0
            simp only [runOf, setSlot, HRL.out, sr, Nat.reduceAdd, Nat.reduceEqDiff, if_true, if_false] at hK ⊢
            simp only [e61, e64, e67] at hK ⊢
            clear e61 e64 e67
            go_wp2_with (fail)
            exact hK _ _ (Below.refl _ _) rfl
           ·intro xq w1 hb1 hx K hK0
            have hK := fun v w' hb => hK0 v w' (.inl hb)
            have e61 : xq 61 = .bool true := hx 11 (by rfl) (by rfl)
            have e68 : xq 68 = .bool false := hx 18 (by rfl) (by rfl)
            clear hx hKc hK0
            simp only [runOf, setSlot, HRL.out, sr, Nat.reduceAdd, Nat.reduceEqDiff, if_true, if_false] at hK ⊢
            simp only [e61, e68] at hK ⊢
            clear e61 e68
            go_wp2_with (fail)
            exact hK _ _ (Below.refl _ _) rfl
          ·intro xq w1 hb1 hx
           have e50 : xq 50 = .slice (some ⟨B0, wo, none⟩) p.length wc := hx 0 (by decide)
           have e51 : xq 51 = .int .i64 (i : Int) := hx 1 (by decide)
           have e52 : xq 52 = .pointer (some ⟨B0, wo + i, none⟩) := hx 2 (by decide)
           have e53 : xq 53 = .int .i64 g := hx 3 (by decide)
           have e54 : xq 54 = .pointer (some ⟨w.heap.size, 8, none⟩) := hx 4 (by decide)
           have e55 : xq 55 = .slice (some ⟨E0, oo, none⟩) bs.length c := hx 5 (by decide)
           have e56 : xq 56 = .int .i64 (k : Int) := hx 6 (by decide)
           have e57 : xq 57 = .pointer (some ⟨E0, oo + k * 4, none⟩) := hx 7 (by decide)
           have e58 : xq 58 = .pointer (some ⟨E0, oo + k * 4 + 1, none⟩) := hx 8 (by decide)
           have e59 : xq 59 = .int .i64 x.mark := hx 9 (by decide)
           have e60 : xq 60 = .bool true := hx 10 (by decide)
           have e61 : xq 61 = .bool true := hx 11 (by decide)
           have e62 : xq 62 = .bool true := hx 12 (by decide)
           have e63 : xq 63 = .bool false := hx 13 (by decide)
           have e64 : xq 64 = .bool false := hx 14 (by decide)
           have e65 : xq 65 = .int .i64 (i : Int) := hx 15 (by decide)
           have e66 : xq 66 = .int .i64 (day : Int) := hx 16 (by decide)
           have e67 : xq 67 = .bool false := hx 17 (by decide)
           have e68 : xq 68 = .bool false := hx 18 (by decide)
           have e69 : xq 69 = .bool false := hx 19 (by decide)
           clear hx
           simp only [runOf, setSlot, HRL.out, sr, Nat.reduceAdd, Nat.reduceEqDiff, if_true, if_false]
           simp only [e50, e51, e52, e53, e54, e55, e56, e57, e58, e59, e60, e61, e62, e63, e64, e65, e66, e67, e68, e69]
           clear e50 e51 e52 e53 e54 e55 e56 e57 e58 e59 e60 e61 e62 e63 e64 e65 e66 e67 e68 e69
           refine hKc _ _ ?_
           go_wp2_with fail
           go_roundw
           case rel => exact ⟨i + 1, day, bin, true, by go_num, rfl, rfl, rfl, hlt3, Lib.hid (best_keep hbest.out (.inr ⟨rfl, by omega⟩)), HB4.out.trans (hb1.mono hs34)⟩
           case measure => first | (simp [intOf]; done) | (simp [intOf]; omega)
       ·have hgm' : g ≤ x.mark := by omega
        have HBV : Hid (burnF b bs p k m i = false) := Lib.hid (HBF.out.trans (decide_eq_false hgm))
        go_wp2_with fail
        rename_i Kc hKc
        have HRL := Lib.hid (show List.range' 50 20 = [50, 51, 52, 53, 54, 55, 56, 57, 58, 59, 60, 61, 62, 63, 64, 65, 66, 67, 68, 69] from rfl)
        refine wp_region_partsR 50 20 (by kernel_rfl) [some 50, some 51, some 52, some 53, some 54, some 55, some 56, some 57, some 58, some 59, some 60, some 61, some 62, some 63, some 64, some 65, some 66, some 67, some 68, some 69] (fun jq xq w' => match jq with
         | 0 => xq 50 = .slice (some ⟨B0, wo, none⟩) p.length wc
         | 1 => xq 51 = .int .i64 (i : Int)
         | 2 => xq 52 = .pointer (some ⟨B0, wo + i, none⟩)
         | 3 => xq 53 = .int .i64 g
         | 4 => xq 54 = .pointer (some ⟨w.heap.size, 8, none⟩)
         | 5 => xq 55 = .slice (some ⟨E0, oo, none⟩) bs.length c
         | 6 => xq 56 = .int .i64 (k : Int)
         | 7 => xq 57 = .pointer (some ⟨E0, oo + k * 4, none⟩)
         | 8 => xq 58 = .pointer (some ⟨E0, oo + k * 4 + 1, none⟩)
         | 9 => xq 59 = .int .i64 x.mark
         | 10 => xq 60 = .bool false
         | 11 => xq 61 = .bool false
         | 12 => True
         | 13 => True
         | 14 => xq 64 = undef
         | 15 => True
         | 16 => True
         | 17 => True
         | 18 => True
         | 19 => xq 69 = .bool false
         | _ => True) [[50], [51], [52], [53], [54], [55], [56], [57], [58], [59], [60], [61], [], [], [64], [], [], [], [], [69]] [] (Below w4.heap.size w4) (by kernel_rfl) (by kernel_rfl) (by rfl) ?_ ?_ (fun w' w'' hb h => h.trans (hb.mono h.size)) (Below.refl _ _) ?_ ?_ ?_
        ·intro jq xq xq' wqq h hv
         match jq, h, hv with
         | 0, h, hv => show xq' 50 = .slice (some ⟨B0, wo, none⟩) p.length wc; rw [← h 50 (by decide)]; exact hv
         | 1, h, hv => show xq' 51 = .int .i64 (i : Int); rw [← h 51 (by decide)]; exact hv
         | 2, h, hv => show xq' 52 = .pointer (some ⟨B0, wo + i, none⟩); rw [← h 52 (by decide)]; exact hv
         | 3, h, hv => show xq' 53 = .int .i64 g; rw [← h 53 (by decide)]; exact hv
         | 4, h, hv => show xq' 54 = .pointer (some ⟨w.heap.size, 8, none⟩); rw [← h 54 (by decide)]; exact hv
         | 5, h, hv => show xq' 55 = .slice (some ⟨E0, oo, none⟩) bs.length c; rw [← h 55 (by decide)]; exact hv
         | 6, h, hv => show xq' 56 = .int .i64 (k : Int); rw [← h 56 (by decide)]; exact hv
         | 7, h, hv => show xq' 57 = .pointer (some ⟨E0, oo + k * 4, none⟩); rw [← h 57 (by decide)]; exact hv
         | 8, h, hv => show xq' 58 = .pointer (some ⟨E0, oo + k * 4 + 1, none⟩); rw [← h 58 (by decide)]; exact hv
         | 9, h, hv => show xq' 59 = .int .i64 x.mark; rw [← h 59 (by decide)]; exact hv
         | 10, h, hv => show xq' 60 = .bool false; rw [← h 60 (by decide)]; exact hv
         | 11, h, hv => show xq' 61 = .bool false; rw [← h 61 (by decide)]; exact hv
         | 12, h, hv => exact hv
         | 13, h, hv => exact hv
         | 14, h, hv => show xq' 64 = undef; rw [← h 64 (by decide)]; exact hv
         | 15, h, hv => exact hv
         | 16, h, hv => exact hv
         | 17, h, hv => exact hv
         | 18, h, hv => exact hv
         | 19, h, hv => show xq' 69 = .bool false; rw [← h 69 (by decide)]; exact hv
         | _ + 20, _, _ => trivial
        ·intro jq xq wqq w' hb' hv
         match jq, hv with
         | 0, hv => exact hv
         | 1, hv => exact hv
         | 2, hv => exact hv
         | 3, hv => exact hv
         | 4, hv => exact hv
         | 5, hv => exact hv
         | 6, hv => exact hv
         | 7, hv => exact hv
         | 8, hv => exact hv
         | 9, hv => exact hv
         | 10, hv => exact hv
         | 11, hv => exact hv
         | 12, hv => exact hv
         | 13, hv => exact hv
         | 14, hv => exact hv
         | 15, hv => exact hv
         | 16, hv => exact hv
         | 17, hv => exact hv
         | 18, hv => exact hv
         | 19, hv => exact hv
         | _ + 20, _ => trivial
        ·intro jq hj
         match jq, hj with
         | 0, hj => exact absurd hj (by decide)
         | 1, hj => exact absurd hj (by decide)
         | 2, hj => exact absurd hj (by decide)
         | 3, hj => exact absurd hj (by decide)
         | 4, hj => exact absurd hj (by decide)
         | 5, hj => exact absurd hj (by decide)
         | 6, hj => exact absurd hj (by decide)
         | 7, hj => exact absurd hj (by decide)
         | 8, hj => exact absurd hj (by decide)
         | 9, hj => exact absurd hj (by decide)
         | 10, hj => exact absurd hj (by decide)
         | 11, hj => exact absurd hj (by decide)
         | 12, hj => exact absurd hj (by decide)
         | 13, hj => exact absurd hj (by decide)
         | 14, hj => exact absurd hj (by decide)
         | 15, hj => exact absurd hj (by decide)
         | 16, hj => exact absurd hj (by decide)
         | 17, hj => exact absurd hj (by decide)
         | 18, hj => exact absurd hj (by decide)
         | 19, hj => exact absurd hj (by decide)
         | _ + 20, _ => trivial
        ·refine ⟨?_, ?_, ?_, ?_, ?_, ?_, ?_, ?_, ?_, ?_, ?_, ?_, ?_, ?_, ?_, ?_, ?_, ?_, ?_, ?_, trivial⟩
         ·intro xq w1 hb1 hx K hK0
          have hK := fun v w' hb => hK0 v w' (.inl hb)
          clear hx hKc hK0
          simp only [runOf, setSlot, HRL.out, sr, Nat.reduceAdd, Nat.reduceEqDiff, if_true, if_false] at hK ⊢
          go_wp2_with (fail)
          exact hK _ _ (Below.refl _ _) rfl
         ·intro xq w1 hb1 hx K hK0
          have hK := fun v w' hb => hK0 v w' (.inl hb)
          clear hx hKc hK0
          simp only [runOf, setSlot, HRL.out, sr, Nat.reduceAdd, Nat.reduceEqDiff, if_true, if_false] at hK ⊢
          go_wp2_with (fail)
          exact hK _ _ (Below.refl _ _) rfl
         ·intro xq w1 hb1 hx K hK0
          have hK := fun v w' hb => hK0 v w' (.inl hb)
          have e50 : xq 50 = .slice (some ⟨B0, wo, none⟩) p.length wc := hx 0 (by rfl) (by rfl)
          have e51 : xq 51 = .int .i64 (i : Int) := hx 1 (by rfl) (by rfl)
          clear hx hKc hK0
          simp only [runOf, setSlot, HRL.out, sr, Nat.reduceAdd, Nat.reduceEqDiff, if_true, if_false] at hK ⊢
          simp only [e50, e51] at hK ⊢
          clear e50 e51
          go_wp2_with (fail)
          exact hK _ _ (Below.refl _ _) rfl
         ·intro xq w1 hb1 hx K hK0
          have hK := fun v w' hb => hK0 v w' (.inl hb)
          have e52 : xq 52 = .pointer (some ⟨B0, wo + i, none⟩) := hx 2 (by rfl) (by rfl)
          clear hx hKc hK0
          have q53 : w1.cell? ⟨B0, wo + i, none⟩ = some (.int .i64 g) := (hb1.cell (p := ⟨B0, wo + i, none⟩) lG).trans KG.out
          simp only [runOf, setSlot, HRL.out, sr, Nat.reduceAdd, Nat.reduceEqDiff, if_true, if_false] at hK ⊢
          simp only [e52] at hK ⊢
          clear e52
          go_wp2_with (fail)
          exact hK _ _ (Below.refl _ _) rfl
         ·intro xq w1 hb1 hx K hK0
          have hK := fun v w' hb => hK0 v w' (.inl hb)
          clear hx hKc hK0
          simp only [runOf, setSlot, HRL.out, sr, Nat.reduceAdd, Nat.reduceEqDiff, if_true, if_false] at hK ⊢
          go_wp2_with (fail)
          exact hK _ _ (Below.refl _ _) rfl
         ·intro xq w1 hb1 hx K hK0
          have hK := fun v w' hb => hK0 v w' (.inl hb)
          have e54 : xq 54 = .pointer (some ⟨w.heap.size, 8, none⟩) := hx 4 (by rfl) (by rfl)
          clear hx hKc hK0
          have q55 : w1.cell? ⟨w.heap.size, 8, none⟩ = some (.slice (some ⟨E0, oo, none⟩) bs.length c) := (hb1.cell (p := ⟨w.heap.size, 8, none⟩) lb).trans KB8.out
          simp only [runOf, setSlot, HRL.out, sr, Nat.reduceAdd, Nat.reduceEqDiff, if_true, if_false] at hK ⊢
          simp only [e54] at hK ⊢
          clear e54
          go_wp2_with (fail)
          exact hK _ _ (Below.refl _ _) rfl
         ·intro xq w1 hb1 hx K hK0
          have hK := fun v w' hb => hK0 v w' (.inl hb)
          clear hx hKc hK0
          simp only [runOf, setSlot, HRL.out, sr, Nat.reduceAdd, Nat.reduceEqDiff, if_true, if_false] at hK ⊢
          go_wp2_with (fail)
          exact hK _ _ (Below.refl _ _) rfl
         ·intro xq w1 hb1 hx K hK0
          have hK := fun v w' hb => hK0 v w' (.inl hb)
          have e55 : xq 55 = .slice (some ⟨E0, oo, none⟩) bs.length c := hx 5 (by rfl) (by rfl)
          have e56 : xq 56 = .int .i64 (k : Int) := hx 6 (by rfl) (by rfl)
          clear hx hKc hK0
          simp only [runOf, setSlot, HRL.out, sr, Nat.reduceAdd, Nat.reduceEqDiff, if_true, if_false] at hK ⊢
          simp only [e55, e56] at hK ⊢
          clear e55 e56
          go_wp2_with (fail)
          exact hK _ _ (Below.refl _ _) rfl
         ·intro xq w1 hb1 hx K hK0
          have hK := fun v w' hb => hK0 v w' (.inl hb)
          have e57 : xq 57 = .pointer (some ⟨E0, oo + k * 4, none⟩) := hx 7 (by rfl) (by rfl)
          clear hx hKc hK0
          simp only [runOf, setSlot, HRL.out, sr, Nat.reduceAdd, Nat.reduceEqDiff, if_true, if_false] at hK ⊢
          simp only [e57] at hK ⊢
          clear e57
          go_wp2_with (fail)
          exact hK _ _ (Below.refl _ _) rfl
         ·intro xq w1 hb1 hx K hK0
          have hK := fun v w' hb => hK0 v w' (.inl hb)
          have e58 : xq 58 = .pointer (some ⟨E0, oo + k * 4 + 1, none⟩) := hx 8 (by rfl) (by rfl)
          clear hx hKc hK0
          have q59 : w1.cell? ⟨E0, oo + k * 4 + 1, none⟩ = some (.int .i64 x.mark) := (hb1.cell (p := ⟨E0, oo + k * 4 + 1, none⟩) lE4).trans KM.out
          simp only [runOf, setSlot, HRL.out, sr, Nat.reduceAdd, Nat.reduceEqDiff, if_true, if_false] at hK ⊢
          simp only [e58] at hK ⊢
          clear e58
          go_wp2_with (fail)
          exact hK _ _ (Below.refl _ _) rfl
         ·intro xq w1 hb1 hx K hK0
          have hK := fun v w' hb => hK0 v w' (.inl hb)
          have e53 : xq 53 = .int .i64 g := hx 3 (by rfl) (by rfl)
          have e59 : xq 59 = .int .i64 x.mark := hx 9 (by rfl) (by rfl)
          clear hx hKc hK0
          simp only [runOf, setSlot, HRL.out, sr, Nat.reduceAdd, Nat.reduceEqDiff, if_true, if_false] at hK ⊢
          simp only [e53, e59] at hK ⊢
          clear e53 e59
          go_wp2_with (fail)
          first | exact hK _ _ (Below.refl _ _) rfl | exact hK _ _ (Below.refl _ _) (congrArg Value.bool (decide_eq_false (by omega)))
         ·intro xq w1 hb1 hx K hK0
          have hK := fun v w' hb => hK0 v w' (.inl hb)
          have e60 : xq 60 = .bool false := hx 10 (by rfl) (by rfl)
          clear hx hKc hK0
          simp only [runOf, setSlot, HRL.out, sr, Nat.reduceAdd, Nat.reduceEqDiff, if_true, if_false] at hK ⊢
          simp only [e60] at hK ⊢
          clear e60
          go_wp2_with (fail)
          exact hK _ _ (Below.refl _ _) rfl
         ·intro xq w1 hb1 hx K hK0
          have hK := fun v w' hb => hK0 v w' (.inl hb)
          have e61 : xq 61 = .bool false := hx 11 (by rfl) (by rfl)
          clear hx hKc hK0
          simp only [runOf, setSlot, HRL.out, sr, Nat.reduceAdd, Nat.reduceEqDiff, if_true, if_false] at hK ⊢
          simp only [e61] at hK ⊢
          clear e61
          go_wp2_with (fail)
          exact hK _ _ (Below.refl _ _) trivial
         ·intro xq w1 hb1 hx K hK0
          have hK := fun v w' hb => hK0 v w' (.inl hb)
          have e61 : xq 61 = .bool false := hx 11 (by rfl) (by rfl)
          clear hx hKc hK0
          simp only [runOf, setSlot, HRL.out, sr, Nat.reduceAdd, Nat.reduceEqDiff, if_true, if_false] at hK ⊢
          simp only [e61] at hK ⊢
          clear e61
          go_wp2_with (fail)
          exact hK _ _ (Below.refl _ _) trivial
         ·intro xq w1 hb1 hx K hK0
          have hK := fun v w' hb => hK0 v w' (.inl hb)
          have e61 : xq 61 = .bool false := hx 11 (by rfl) (by rfl)
          clear hx hKc hK0
          simp only [runOf, setSlot, HRL.out, sr, Nat.reduceAdd, Nat.reduceEqDiff, if_true, if_false] at hK ⊢
          simp only [e61] at hK ⊢
          clear e61
          go_wp2_with (fail)
          exact hK _ _ (Below.refl _ _) rfl
         ·intro xq w1 hb1 hx K hK0
          have hK := fun v w' hb => hK0 v w' (.inl hb)
          have e64 : xq 64 = undef := hx 14 (by rfl) (by rfl)
          clear hx hKc hK0
          simp only [runOf, setSlot, HRL.out, sr, Nat.reduceAdd, Nat.reduceEqDiff, if_true, if_false] at hK ⊢
          simp only [e64] at hK ⊢
          clear e64
          go_wp2_with (fail)
          exact hK _ _ (Below.refl _ _) trivial
         ·intro xq w1 hb1 hx K hK0
          have hK := fun v w' hb => hK0 v w' (.inl hb)
          have e64 : xq 64 = undef := hx 14 (by rfl) (by rfl)
          clear hx hKc hK0
          simp only [runOf, setSlot, HRL.out, sr, Nat.reduceAdd, Nat.reduceEqDiff, if_true, if_false] at hK ⊢
          simp only [e64] at hK ⊢
          clear e64
          go_wp2_with (fail)
          exact hK _ _ (Below.refl _ _) trivial
         ·intro xq w1 hb1 hx K hK0
          have hK := fun v w' hb => hK0 v w' (.inl hb)
          have e64 : xq 64 = undef := hx 14 (by rfl) (by rfl)
          clear hx hKc hK0
          simp only [runOf, setSlot, HRL.out, sr, Nat.reduceAdd, Nat.reduceEqDiff, if_true, if_false] at hK ⊢
          simp only [e64] at hK ⊢
          clear e64
          go_wp2_with (fail)
          exact hK _ _ (Below.refl _ _) trivial
         ·intro xq w1 hb1 hx K hK0
          have hK := fun v w' hb => hK0 v w' (.inl hb)
          have e61 : xq 61 = .bool false := hx 11 (by rfl) (by rfl)
          have e64 : xq 64 = undef := hx 14 (by rfl) (by rfl)
          clear hx hKc hK0
          simp only [runOf, setSlot, HRL.out, sr, Nat.reduceAdd, Nat.reduceEqDiff, if_true, if_false] at hK ⊢
          simp only [e61, e64] at hK ⊢
          clear e61 e64
          go_wp2_with (fail)
          exact hK _ _ (Below.refl _ _) trivial
         ·intro xq w1 hb1 hx K hK0
          have hK := fun v w' hb => hK0 v w' (.inl hb)
          have e61 : xq 61 = .bool false := hx 11 (by rfl) (by rfl)
          clear hx hKc hK0
          simp only [runOf, setSlot, HRL.out, sr, Nat.reduceAdd, Nat.reduceEqDiff, if_true, if_false] at hK ⊢
          simp only [e61] at hK ⊢
          clear e61
          go_wp2_with (fail)
          exact hK _ _ (Below.refl _ _) rfl
        ·intro xq w1 hb1 hx
         have e50 : xq 50 = .slice (some ⟨B0, wo, none⟩) p.length wc := hx 0 (by decide)
         have e51 : xq 51 = .int .i64 (i : Int) := hx 1 (by decide)
         have e52 : xq 52 = .pointer (some ⟨B0, wo + i, none⟩) := hx 2 (by decide)
         have e53 : xq 53 = .int .i64 g := hx 3 (by decide)
         have e54 : xq 54 = .pointer (some ⟨w.heap.size, 8, none⟩) := hx 4 (by decide)
         have e55 : xq 55 = .slice (some ⟨E0, oo, none⟩) bs.length c := hx 5 (by decide)
         have e56 : xq 56 = .int .i64 (k : Int) := hx 6 (by decide)
         have e57 : xq 57 = .pointer (some ⟨E0, oo + k * 4, none⟩) := hx 7 (by decide)
         have e58 : xq 58 = .pointer (some ⟨E0, oo + k * 4 + 1, none⟩) := hx 8 (by decide)
         have e59 : xq 59 = .int .i64 x.mark := hx 9 (by decide)
         have e60 : xq 60 = .bool false := hx 10 (by decide)
         have e61 : xq 61 = .bool false := hx 11 (by decide)
         have e64 : xq 64 = undef := hx 14 (by decide)
         have e69 : xq 69 = .bool false := hx 19 (by decide)
         clear hx
         simp only [runOf, setSlot, HRL.out, sr, Nat.reduceAdd, Nat.reduceEqDiff, if_true, if_false]
         simp only [e50, e51, e52, e53, e54, e55, e56, e57, e58, e59, e60, e61, e64, e69]
         clear e50 e51 e52 e53 e54 e55 e56 e57 e58 e59 e60 e61 e64 e69
         refine hKc _ _ ?_
         go_wp2_with fail
         go_roundw
         case rel => exact ⟨i + 1, day, bin, any, by go_num, rfl, rfl, rfl, hlt3, Lib.hid (best_keep hbest.out (.inl HBV.out)), HB4.out.trans (hb1.mono hs34)⟩
         case measure => first | (simp [intOf]; done) | (simp [intOf]; omega)
      ·have hip : i = p.length := by omega
       have hlt3' : ¬ (i : Int) < p.length := by omega
       have HBM : Hid (Best (burnF b bs p) k (m + 1) 0 day bin any) := Lib.hid (best_m (by rw [← hip]; exact hbest.out) (fun d' h => burn_len h))
       clear hip
       go_wp2_with fail
       go_roundw
       case rel => exact ⟨m + 1, day, bin, any, by go_num, rfl, rfl, rfl, by omega, by omega, HBM, HB.out, HH.out⟩
       case measure => first | (simp [intOf]; done) | (simp [intOf]; omega)
    ·have hlt2' : ¬ (m : Int) ≤ (hi : Int) := by omega
     have HBK : Hid (Best (burnF b bs p) (k + 1) 0 0 day bin any) := Lib.hid (best_k hbest.out (fun m' d' h => burn_off HX.out (.inr (by rw [HHI.out]; omega))) (fun _ _ h => by omega))
     go_wp2_with fail
     go_roundw
     case rel => exact ⟨k + 1, day, bin, any, rfl, rfl, rfl, by go_num, by omega, HBK, HB.out, HH.out⟩
     case measure => first | (simp [intOf]; done) | (simp [intOf]; omega)
  ·have hkb : k = bs.length := by omega
   have hlt' : ¬ (k : Int) < bs.length := by omega
   have HBE : Hid (Best (burnF b bs p) bs.length 0 0 day bin any) := Lib.hid (by rw [← hkb]; exact hbest.out)
   clear hkb
   go_wp2_with fail
   (try simp only [Exit.inBlock, Exit.then])
   refine ret_three rfl rfl ?_
   revert HBE
   cases any
   ·intro HBE; exact ⟨day, bin, .inl ⟨rfl, HBE.out, HB.out⟩⟩
   ·intro HBE; exact ⟨day, bin, .inr ⟨rfl, HBE.out, HB.out⟩⟩
end Go.Proofs.Ytokafjkinkafiaa
