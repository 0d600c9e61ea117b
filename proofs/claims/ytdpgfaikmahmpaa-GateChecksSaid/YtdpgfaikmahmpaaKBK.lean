import Derived.Deep.CutRange
import Derived.Laws.AppendOwnNone
import Derived.Test.YtdpgfaikmahmpaaKAA
import Derived.Test.YtdpgfaikmahmpaaKAC
import Derived.Test.YtdpgfaikmahmpaaKAM
import Derived.Test.YtdpgfaikmahmpaaKBB
import Derived.Test.YtdpgfaikmahmpaaKBF
import Derived.Test.YtdpgfaikmahmpaaKBH
import Derived.Test.YtdpgfaikmahmpaaKBI
import Derived.Test.YtdpgfaikmahmpaaKBJ
set_option linter.unusedSimpArgs false
set_option linter.unusedVariables false
namespace Go.Proofs.Ytdpgfaikmahmpaa
open Go.RowKit
theorem fill_append (ds : List Nat) (x : Nat → Value) : ∀ (l r : List Value) (t : Nat), fill ds x t (l ++ r) = fill ds x t l ++ fill ds x (t + l.length) r
 | [], r, t => by simp [fill]
 | v :: l, r, t => by
  simp only [List.cons_append, fill, fill_append ds x l r (t + 1), List.length_cons]
  rw [show t + 1 + l.length = t + (l.length + 1) by omega]
theorem fill_out (ds : List Nat) (x : Nat → Value) : ∀ (l : List Value) (t : Nat), (∀ i, t ≤ i → i < t + l.length → ds.contains i = false) → fill ds x t l = l
 | [], t, _ => rfl
 | v :: l, t, h => by
  have h0 := h t (Nat.le_refl _) (by simp)
  simp only [fill, h0, Bool.false_eq_true, if_false]
  rw [fill_out ds x l (t + 1) (fun i h1 h2 => h i (by omega) (by simp; omega))]
theorem fill_in (ds : List Nat) (x : Nat → Value) : ∀ (l : List Value) (t : Nat), (∀ i, t ≤ i → i < t + l.length → ds.contains i = true) → fill ds x t l = (List.range' t l.length).map x
 | [], t, _ => rfl
 | v :: l, t, h => by
  have h0 := h t (Nat.le_refl _) (by simp)
  simp only [fill, h0, if_true, List.length_cons, List.range'_succ, List.map_cons]
  rw [fill_in ds x l (t + 1) (fun i h1 h2 => h i (by omega) (by simp; omega))]
theorem frameOf_run {ds : List Nat} (a n : Nat) (hds : ds = List.range' a n) (x : Nat → Value) (l : List Value) (df : _) (hl : decide (a + n ≤ l.length) = true) :
  frameOf ds x ⟨l.toArray, df⟩ = ⟨(l.take a ++ ((List.range' a n).map x ++ l.drop (a + n))).toArray, df⟩ := by
 have hl' : a + n ≤ l.length := by simpa using hl
 subst hds
 have e : l = l.take a ++ ((l.drop a).take n ++ l.drop (a + n)) := by
  rw [show l.drop (a + n) = (l.drop a).drop n by simp [List.drop_drop], List.take_append_drop, List.take_append_drop]
 unfold frameOf
 simp only
 congr 2
 conv => lhs; rw [e]
 have l1 : (l.take a).length = a := by simp; omega
 have l2 : ((l.drop a).take n).length = n := by simp; omega
 have c : ∀ i, (List.range' a n).contains i = (decide (a ≤ i) && decide (i < a + n)) := by
  intro i
  rw [Bool.eq_iff_iff, List.contains_iff_mem, List.mem_range'_1]
  simp
 rw [fill_append, fill_append, l1, l2, fill_out _ _ (l.take a) 0 (fun i h1 h2 => by rw [c]; simp; omega),
  fill_in _ _ ((l.drop a).take n) (0 + a) (fun i h1 h2 => by rw [c]; simp; omega), fill_out _ _ (l.drop (a + n)) _ (fun i h1 h2 => by rw [c]; simp; omega), l2, Nat.zero_add]
section
variable {P : Program} {ops : Array Oper} {Q : Exit → Act → World → Prop}
def runOf (a n : Nat) (x : Nat → Value) (l : List Value) : Array Value := (l.take a ++ ((List.range' a n).map x ++ l.drop (a + n))).toArray
theorem wp_region_partsR {id : Nat} {l : List Value} {df : _} {w0 : World} (a n : Nat) (hm : P.follows .mixedOrders = true) (ds : List (Option Nat)) (V : Nat → (Nat → Value) → World → Prop) (uses : List (List Nat)) (dead : List (Nat × Nat)) (Base : World → Prop)
  (hok : partsOkW ops ds uses dead l.length = true) (hds : slotsOf ds = List.range' a n) (hl : decide (a + n ≤ l.length) = true)
  (hx : ∀ j x x' w, (∀ t ∈ uses.getD j [], x t = x' t) → V j x w → V j x' w)
  (hV : ∀ j x w w', Below w.heap.size w w' → V j x w → V j x w')
  (hB : ∀ w w', Below w.heap.size w w' → Base w → Base w') (h0 : Base w0) (h00 : ∀ j, ops.size ≤ j → V j (fun t => l.toArray.getD t undef) w0)
  (hstep : Each (fun i o => ∀ (x : Nat → Value) (w : World), Base w → (∀ j, (waits o j || decide (ops.size ≤ j)) = true → safe ops dead i j = true → V j x w) →
   ∀ K : Act → World → Prop, (∀ v w', (Below w.heap.size w w' ∨ Base w' ∧ ∀ j x, dead.contains (i, j) = false → j ≠ i → V j x w → V j x w') → V i (setSlot x (ds.getD i none) v) w' → K ⟨runOf a n (setSlot x (ds.getD i none) v) l, df⟩ w') →
    wpList P ops (Thence Q K) [o] ⟨runOf a n x l, df⟩ w) 0 ops.toList)
  (hend : ∀ (x : Nat → Value) (w : World), Base w → (∀ j, (∀ i, i < ops.size → dead.contains (i, j) = false) → V j x w) → Q .normal ⟨runOf a n x l, df⟩ w) :
  (Code.region id ops true).wp P Q ⟨l.toArray, df⟩ w0 := by
 have e : ∀ x, frameOf (slotsOf ds) x ⟨l.toArray, df⟩ = ⟨runOf a n x l, df⟩ := fun x => frameOf_run a n hds x l df hl
 refine wp_region_partsW hm ds V uses dead Base (by simpa using hok) hx hV hB h0 h00 ?_ ?_
 ·simp only [e]; exact hstep
 ·simp only [e]; exact hend
end
structure But (n : Nat) (L : List Nat) (w w' : World) : Prop where
 os : w'.os = w.os
 tape : w'.tape = w.tape
 output : w'.output = w.output
 size : w.heap.size ≤ w'.heap.size
 low : ∀ k, k < n → w'.heap[k]? = w.heap[k]?
 block : ∀ k, k < w.heap.size → k ∉ L → (∀ cs f, w.heap[k]? ≠ some (.cells cs 30 f)) → w'.heap[k]? = w.heap[k]?
theorem But.refl (n : Nat) (L : List Nat) (w : World) : But n L w w := ⟨rfl, rfl, rfl, Nat.le_refl _, fun _ _ => rfl, fun _ _ _ _ => rfl⟩
theorem But.up {n : Nat} {L : List Nat} {w w' w'' : World} (h : But n L w w') (hn : n ≤ w.heap.size) (hb : Below w'.heap.size w' w'') : But n L w w'' :=
  ⟨hb.os.trans h.os, hb.tape.trans h.tape, hb.output.trans h.output, Nat.le_trans h.size hb.size, fun k hk => (hb.block k (Nat.lt_of_lt_of_le hk (Nat.le_trans hn h.size))).trans (h.low k hk),
   fun k hk hL hne => (hb.block k (Nat.lt_of_lt_of_le hk h.size)).trans (h.block k hk hL hne)⟩
theorem But.listed {n : Nat} {L : List Nat} {w w' w'' : World} {b : Nat} (h : But n L w w') (hn : n ≤ w.heap.size) (hg : w'.grownBy w'' (some b)) (hL : b ∈ L) (hb : n ≤ b) : But n L w w'' :=
  ⟨hg.os.trans h.os, hg.tape.trans h.tape, hg.output.trans h.output, Nat.le_trans h.size hg.size, fun k hk => (hg.block k (Nat.lt_of_lt_of_le hk (Nat.le_trans hn h.size)) (fun e => by cases e; omega)).trans (h.low k hk),
   fun k hk hL' hne => (hg.block k (Nat.lt_of_lt_of_le hk h.size) (fun e => by cases e; exact hL' hL)).trans (h.block k hk hL' hne)⟩
theorem But.row {n : Nat} {L : List Nat} {w w' w'' : World} {v : Value} {B m : Nat} {xs : List Value} (h : But n L w w') (hn : n ≤ w.heap.size) (hr : w'.ownsRow B 30 5 v m xs) (hB : n ≤ B) (hg : w'.grownBy w'' v.ownBlock) : But n L w w'' := by
 have hk : ∀ k, v.ownBlock = some k → n ≤ k ∧ ∃ cur, w'.heap[k]? = some (.cells cur 30 (0, 0)) := by
  obtain ⟨_, ⟨rfl, _⟩ | ⟨g, cap, cur, rfl, hBg, hgg, _⟩⟩ := hr
  ·intro k hk; cases hk
  ·intro k hk; cases hk; exact ⟨Nat.le_trans hB hBg, cur, hgg⟩
 refine ⟨hg.os.trans h.os, hg.tape.trans h.tape, hg.output.trans h.output, Nat.le_trans h.size hg.size, fun k hkn => ?_, fun k hkw hL hne => ?_⟩
 ·refine (hg.block k (Nat.lt_of_lt_of_le hkn (Nat.le_trans hn h.size)) (fun e => ?_)).trans (h.low k hkn)
  have := (hk k e.symm).1
  omega
 ·have e := h.block k hkw hL hne
  refine (hg.block k (Nat.lt_of_lt_of_le hkw h.size) (fun e' => ?_)).trans e
  obtain ⟨_, cur, hc⟩ := hk k e'.symm
  exact hne cur (0, 0) (e ▸ hc)
theorem But.trans {n : Nat} {L : List Nat} {w w' w'' : World} (h : But n L w w') (hn : n ≤ w.heap.size) (h2 : But n L w' w'') : But n L w w'' :=
  ⟨h2.os.trans h.os, h2.tape.trans h.tape, h2.output.trans h.output, Nat.le_trans h.size h2.size, fun k hk => (h2.low k hk).trans (h.low k hk),
   fun k hk hL hne => by
    have e := h.block k hk hL hne
    exact (h2.block k (Nat.lt_of_lt_of_le hk h.size) hL (fun cs f => by rw [e]; exact hne cs f)).trans e⟩
theorem But.below {n : Nat} {L : List Nat} {w w' : World} (h : But n L w w') : Below n w w' := ⟨h.os, h.tape, h.output, h.size, h.low⟩
theorem taken_parts {h : Hf} (t : h.taken = true) : (0 ≤ h.spot ∧ h.spot ≤ 2) ∧ (0 ≤ h.g0 ∧ h.g0 ≤ 200) ∧ (0 ≤ h.g1 ∧ h.g1 ≤ 200) ∧ (0 ≤ h.g2 ∧ h.g2 ≤ 200) ∧ 0 ≤ h.g3 ∧ h.g3 ≤ 200 := by
 simpa [Hf.taken, within, and_assoc] using t
open Go.RowKit Go.Maps
def Sees (xs : List Int) (D : DataW Unit) : Prop := IsMap D ∧ ∀ n : Int, D.atKey (.int .i64 n) (.lit (.bool false)) = .lit (.bool (decide (n ∈ xs)))
theorem Sees.put {xs : List Int} {D : DataW Unit} (h : Sees xs D) (x : Int) : Sees (xs ++ [x]) (D.put (.int .i64 x) (.lit (.bool true))) := by
 refine ⟨h.1.put _ _, fun n => ?_⟩
 by_cases e : n = x
 ·subst e
  rw [atKey_put_same h.1 (by simp [WideAt.IsKeyLit])]
  simp
 ·rw [atKey_put_other (by intro e'; simp at e'; exact e e'), h.2 n]
  simp [e]


theorem grades_flat {w : World} {B o : Nat} {gs : List Gr} (hc : GradesAt w (some ⟨B, o, none⟩) gs) : ∀ j v, (gs.flatMap Gr.cells)[j]? = some v → w.cell? ((⟨B, o, none⟩ : Addr).add j) = some v := by
 intro j v hj
 rw [Addr.add_mid]
 have hlt : j < gs.length * 5 := by rw [← flat_len Gr.cells (fun _ => rfl) gs]; exact (List.getElem?_eq_some_iff.1 hj).1
 have hk : j / 5 < gs.length := by omega
 obtain ⟨B', o', e, hcell⟩ := hc (by omega)
 cases e
 have hx : gs[j / 5]? = some gs[j / 5] := List.getElem?_eq_getElem hk
 have h5 : j % 5 < 5 := Nat.mod_lt _ (by decide)
 have hq := flat_at Gr.cells (fun _ => rfl) gs (j / 5) (j % 5) _ hx h5
 rw [show j / 5 * 5 + j % 5 = j from by omega, hj] at hq
 obtain ⟨c0, c1, c2, c3, c4⟩ := hcell _ _ hx
 have hjj : o + j = o + j / 5 * 5 + j % 5 := by omega
 rw [hjj]
 generalize j % 5 = i at hq h5
 match i, h5 with
 | 0, _ => exact c0.trans hq.symm
 | 1, _ => exact c1.trans hq.symm
 | 2, _ => exact c2.trans hq.symm
 | 3, _ => exact c3.trans hq.symm
 | 4, _ => exact c4.trans hq.symm
theorem grades_one (gs : List Gr) : ∀ v ∈ gs.flatMap Gr.cells, v.oneCell' = true := by
 intro v hv
 obtain ⟨x, _, hx⟩ := List.mem_flatMap.1 hv
 simp only [Gr.cells, List.mem_cons, List.not_mem_nil, or_false] at hx
 rcases hx with rfl | rfl | rfl | rfl | rfl <;> rfl
theorem below_none {w w' : World} (h : w.grownBy w' none) : Below w.heap.size w w' := ⟨h.os, h.tape, h.output, h.size, fun k hk => h.block k hk (by simp)⟩
theorem append_grades (w : World) (ty : TypeId) (g n d B : Nat) (G : Option Addr) (gs : List Gr) (hown : w.ownsRow B 128 5 (.slice (some ⟨g, 0, none⟩) 0 n) 0 []) (hn : gs.length ≤ n) (hG : GradesAt w G gs) (hd : G = none → gs.length = 0 ∧ d = 0) :
  ∃ v w', (Builtin.append_ #[22, 22] ty #[.slice (some ⟨g, 0, none⟩) 0 n, .slice G gs.length d]).run Try.prog w = .ok v w' ∧ OwnGrades w' B v gs ∧ w.grownBy w' (some g) := by
 obtain ⟨i0, hi, hz0, hz1, hz2⟩ := info_parts info_grade
 cases G with
 | none =>
  obtain ⟨h0, rfl⟩ := hd rfl
  have e : gs = [] := List.eq_nil_of_length_eq_zero h0
  subst e
  exact ⟨_, w, run_append_owned_none (P := Try.prog) (w := w) B 22 ty 128 i0 5 und_grades hi _ 0 [] hown, hown, grow_refl w g⟩
 | some a =>
  have hl := flat_len Gr.cells (fun _ => rfl) gs
  obtain ⟨w', hrun, ho, hg⟩ := run_append_fits (P := Try.prog) (w := w) B 22 ty 128 i0 5 und_grades hi hz1 g 0 n [] hown a gs.length d (gs.flatMap Gr.cells) hl (by
   by_cases h0 : 0 < gs.length
   ·obtain ⟨B', o, e, _⟩ := hG h0
    cases e
    exact grades_flat hG
   ·intro j u hj
    have e : gs = [] := List.eq_nil_of_length_eq_zero (by omega)
    subst e
    simp at hj) (grades_one gs) (by omega)
  simp only [Nat.zero_add, List.nil_append] at ho hrun
  exact ⟨_, w', hrun, ho, hg⟩
theorem wpList_append_run {P : Program} (w : World) {ops : Array Oper} {rest : List Oper} {o : Oper} {a : Act} {Q : Exit → Act → World → Prop} (hgd : o.guard = none) (d s : Operand) (t t' : TypeId)
  (ho : o.op = .call { callee := .builtin .append, args := #[d, s], argTypes := #[t, t'] }) (v u : Value) (hd : a.eval d = v) (hs : a.eval s = u) {v' : Value} {w' : World}
  (hr : (Builtin.append_ #[t, t'] o.type #[v, u]).run P w = .ok v' w') (h : wpList P ops Q rest (a.put o.dst v') w') : wpList P ops Q (o :: rest) a w :=
 wpList_plain hgd fun _ hK => by
  unfold Oper.wp execOp
  simp only [ho, resolve, invoke, builtin, Sem.run_bind, Sem.run_pure, Result.andThen_ok, List.map_toArray, List.map_cons, List.map_nil, hd, hs, hr]
  exact hK _ _ h
set_option maxRecDepth 100000 in
set_option maxHeartbeats 2000000 in
theorem DupGrades_any (G : Option Addr) (d : Nat) (gs : List Gr) (w : World) (hG : GradesAt w G gs) (hl : gs.length ≤ 1000) (hd : G = none → gs.length = 0 ∧ d = 0) :
  Calls Try.prog 80 #[.slice G gs.length d] w fun e w' => ∃ v, e = .returned v ∧ OwnGrades w' w.heap.size v gs ∧ Below w.heap.size w w' := by
 obtain ⟨i0, hi, hz0, hz1, hz2⟩ := info_parts info_grade
 obtain ⟨w2, hrun2, hown2, hgr2⟩ := run_make_own (P := Try.prog) (w := w) w.heap.size 22 128 i0 _ 5 und_grades hi hz0 hz1 .i64 .i64 gs.length (by rw [hz2]; omega) (by unfold maxLen; omega) (Nat.le_refl _)
 have hb2 := below_none hgr2
 obtain ⟨v, w3, hrun3, hown3, hgr3⟩ := append_grades w2 22 w.heap.size gs.length d w.heap.size G gs hown2 (Nat.le_refl _) (hG.up hb2) hd
 have HO := Lib.hid hown3
 have HB : Hid (Below w.heap.size w w3) := Lib.hid (hb2.grown hgr3 hb2.size (fun k hk => by cases hk; exact Nat.le_refl _))
 clear hG hown2 hgr2 hown3 hgr3 hb2
 go_enter Try.func80, Try.ntmps80
 go_wp2_with (at_builtin; (refine wpList_append_run _ rfl _ _ _ _ rfl _ _ rfl rfl hrun3 ?_))
 go_ret
 exact ⟨v, rfl, HO.out, HB.out⟩
theorem row5_mono {w : World} {B B' n : Nat} {e : TypeId} {v : Value} {xs : List Value} (h : w.ownsRow B e 5 v n xs) (hb : B' ≤ B) : w.ownsRow B' e 5 v n xs := by
 obtain ⟨hl, h | ⟨g, cap, cur, ev, hB, r⟩⟩ := h
 ·exact ⟨hl, .inl h⟩
 ·exact ⟨hl, .inr ⟨g, cap, cur, ev, Nat.le_trans hb hB, r⟩⟩
set_option maxRecDepth 100000 in
set_option maxHeartbeats 2000000 in
theorem Own_any (err miss : Int) (G : Option Addr) (d : Nat) (gs : List Gr) (w : World) (hG : GradesAt w G gs) (hl : gs.length ≤ 1000) (hd : G = none → gs.length = 0 ∧ d = 0) :
  Calls Try.prog 17 #[.agg #[.int .i64 err, .int .i64 miss, .slice G gs.length d]] w fun e w' => ∃ G' d', e = .returned (.agg #[.int .i64 err, .int .i64 miss, .slice G' gs.length d']) ∧ OwnGrades w' w.heap.size (.slice G' gs.length d') gs ∧ gs.length ≤ d' ∧ Below w.heap.size w w' := by
 have HG := Lib.hid hG
 clear hG
 go_enter Try.func17, Try.ntmps17
 go_wp2_with fail
 refine (DupGrades_any G d gs _ (HG.out.up zg) hl hd).mono ?_
 rintro e w2 ⟨v, rfl, hown, hb2⟩
 have Hg2 := Lib.hid (Holds.up (zp4 : Holds _ (w.heap.size) 24 #[.int .i64 err, .int .i64 miss, .slice G gs.length d]) hb2)
 have Hr2 := Lib.hid (Holds.up (zp4 : Holds _ (w.heap.size + 1) 24 #[.int .i64 0, .int .i64 0, .slice none 0 0]) hb2)
 have HS2 : Hid (Below w.heap.size w w2) := Lib.hid (Below.trans zg (hb2.mono (by first | exact Nat.le_refl _ | omega | (simp; done) | (simp; omega))))
 have HB2 := HS2
 have hs2 := HB2.out.size
 have hst2 := HS2.out.size
 clear hb2
 obtain ⟨G', d', rfl, hgd, _⟩ := hown.at_
 have HO := Lib.hid hown
 clear hown
 have hrl := Hr2.out
 obtain ⟨kg0, kg1, kg2⟩ := Hg2.out.c3
 obtain ⟨zg0, zg1, zg2⟩ := Hg2.out.f3
 have lt_g : w.heap.size < w2.heap.size := Hg2.out.lt
 obtain ⟨kr0, kr1, kr2⟩ := Hr2.out.c3
 obtain ⟨zr0, zr1, zr2⟩ := Hr2.out.f3
 have lt_r : w.heap.size + 1 < w2.heap.size := Hr2.out.lt
 have lt1 : w.heap.size < w.heap.size + 1 + 1 := by omega
 have lt2 : w.heap.size + 1 < w.heap.size + 1 + 1 := by omega
 go_wp2_with fail
 refine ret_cell (t := 24) (cs := #[.int .i64 err, .int .i64 miss, .slice G' gs.length d']) rfl rfl zp4 Try.underlying24 rfl (by kernel_rfl) rfl ⟨G', d', rfl, ?_, hgd, HB2.out.trans zg⟩
 have ho := HO.out
 simp only [World.size_alloc] at ho
 exact row5_mono (row5_far (row5_far (row5_far (row5_far ho (p := ⟨w.heap.size, 2, none⟩) lt1 _) (p := ⟨w.heap.size + 1, 0, none⟩) lt2 _) (p := ⟨w.heap.size + 1, 1, none⟩) lt2 _) (p := ⟨w.heap.size + 1, 2, none⟩) lt2 _) (by omega)
theorem nil_row {w : World} {B n d : Nat} {e : TypeId} {G : Option Addr} {xs : List Value} (h : w.ownsRow B e 5 (.slice G n d) n xs) : G = none → n = 0 ∧ d = 0 := fun hG => by
 subst hG
 obtain ⟨_, ⟨e, rfl⟩ | ⟨g, cap, cur, e, _⟩⟩ := h
 ·simp at e; exact ⟨rfl, e⟩
 ·simp at e
end Go.Proofs.Ytdpgfaikmahmpaa
