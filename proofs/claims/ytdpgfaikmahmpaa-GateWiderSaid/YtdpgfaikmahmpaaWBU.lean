import Derived.Laws.AppendOwnNone
import Derived.Deep.CutRange
import Derived.Test.YtdpgfaikmahmpaaWAA
import Derived.Test.YtdpgfaikmahmpaaWAC
import Derived.Test.YtdpgfaikmahmpaaWBF
import Derived.Test.YtdpgfaikmahmpaaWBR
import Derived.Test.YtdpgfaikmahmpaaWBT
set_option linter.unusedSimpArgs false
set_option linter.unusedVariables false
namespace Go.Proofs.Ytdpgfaikmahmpaa
open Go.RowKit
theorem grades_flat {w : World} {B o : Nat} {gs : List Gr} (hc : GradesAt w (some ⟨B, o, none⟩) gs) : ∀ j v, (gs.flatMap Gr.cells)[j]? = some v → w.cell? ((⟨B, o, none⟩ : Addr).add j) = some v := by
 intro j v hj
 rw [Addr.add_mid]
 have hlt : j < gs.length * 5 := by rw [← flat_len Gr.cells (fun _ => rfl) gs]; exact (List.getElem?_eq_some_iff.1 hj).1
 have hk : j / 5 < gs.length := by omega
 obtain ⟨B', o', e, hcell⟩ := hc (by omega)
 cases e
 have hx : gs[j / 5]? = some gs[j / 5] := List.getElem?_eq_getElem hk
 have h5 : j % 5 < 5 := Nat.mod_lt _ (by decide)
 have hq := flat_at Gr.cells (fun _ => rfl) gs (j / 5) (j % 5) _ hx h5
 rw [show j / 5 * 5 + j % 5 = j from by omega, hj] at hq
 obtain ⟨c0, c1, c2, c3, c4⟩ := hcell _ _ hx
 have hjj : o + j = o + j / 5 * 5 + j % 5 := by omega
 rw [hjj]
 generalize j % 5 = i at hq h5
 match i, h5 with
 | 0, _ => exact c0.trans hq.symm
 | 1, _ => exact c1.trans hq.symm
 | 2, _ => exact c2.trans hq.symm
 | 3, _ => exact c3.trans hq.symm
 | 4, _ => exact c4.trans hq.symm
theorem grades_one (gs : List Gr) : ∀ v ∈ gs.flatMap Gr.cells, v.oneCell' = true := by
 intro v hv
 obtain ⟨x, _, hx⟩ := List.mem_flatMap.1 hv
 simp only [Gr.cells, List.mem_cons, List.not_mem_nil, or_false] at hx
 rcases hx with rfl | rfl | rfl | rfl | rfl <;> rfl
theorem below_none {w w' : World} (h : w.grownBy w' none) : Below w.heap.size w w' := ⟨h.os, h.tape, h.output, h.size, fun k hk => h.block k hk (by simp)⟩
theorem append_grades (w : World) (ty : TypeId) (g n d B : Nat) (G : Option Addr) (gs : List Gr) (hown : w.ownsRow B 128 5 (.slice (some ⟨g, 0, none⟩) 0 n) 0 []) (hn : gs.length ≤ n) (hG : GradesAt w G gs) (hd : G = none → gs.length = 0 ∧ d = 0) :
  ∃ v w', (Builtin.append_ #[22, 22] ty #[.slice (some ⟨g, 0, none⟩) 0 n, .slice G gs.length d]).run Try.prog w = .ok v w' ∧ OwnGrades w' B v gs ∧ w.grownBy w' (some g) := by
 obtain ⟨i0, hi, hz0, hz1, hz2⟩ := info_parts info_grade
 cases G with
 | none =>
  obtain ⟨h0, rfl⟩ := hd rfl
  have e : gs = [] := List.eq_nil_of_length_eq_zero h0
  subst e
  exact ⟨_, w, run_append_owned_none (P := Try.prog) (w := w) B 22 ty 128 i0 5 und_grades hi _ 0 [] hown, hown, grow_refl w g⟩
 | some a =>
  have hl := flat_len Gr.cells (fun _ => rfl) gs
  obtain ⟨w', hrun, ho, hg⟩ := run_append_fits (P := Try.prog) (w := w) B 22 ty 128 i0 5 und_grades hi hz1 g 0 n [] hown a gs.length d (gs.flatMap Gr.cells) hl (by
   by_cases h0 : 0 < gs.length
   ·obtain ⟨B', o, e, _⟩ := hG h0
    cases e
    exact grades_flat hG
   ·intro j u hj
    have e : gs = [] := List.eq_nil_of_length_eq_zero (by omega)
    subst e
    simp at hj) (grades_one gs) (by omega)
  simp only [Nat.zero_add, List.nil_append] at ho hrun
  exact ⟨_, w', hrun, ho, hg⟩
theorem wpList_append_run {P : Program} (w : World) {ops : Array Oper} {rest : List Oper} {o : Oper} {a : Act} {Q : Exit → Act → World → Prop} (hgd : o.guard = none) (d s : Operand) (t t' : TypeId)
  (ho : o.op = .call { callee := .builtin .append, args := #[d, s], argTypes := #[t, t'] }) (v u : Value) (hd : a.eval d = v) (hs : a.eval s = u) {v' : Value} {w' : World}
  (hr : (Builtin.append_ #[t, t'] o.type #[v, u]).run P w = .ok v' w') (h : wpList P ops Q rest (a.put o.dst v') w') : wpList P ops Q (o :: rest) a w :=
 wpList_plain hgd fun _ hK => by
  unfold Oper.wp execOp
  simp only [ho, resolve, invoke, builtin, Sem.run_bind, Sem.run_pure, Result.andThen_ok, List.map_toArray, List.map_cons, List.map_nil, hd, hs, hr]
  exact hK _ _ h
set_option maxRecDepth 100000 in
set_option maxHeartbeats 2000000 in
theorem DupGrades_any (G : Option Addr) (d : Nat) (gs : List Gr) (w : World) (hG : GradesAt w G gs) (hl : gs.length ≤ 1000) (hd : G = none → gs.length = 0 ∧ d = 0) :
  Calls Try.prog 80 #[.slice G gs.length d] w fun e w' => ∃ v, e = .returned v ∧ OwnGrades w' w.heap.size v gs ∧ Below w.heap.size w w' := by
 obtain ⟨i0, hi, hz0, hz1, hz2⟩ := info_parts info_grade
 obtain ⟨w2, hrun2, hown2, hgr2⟩ := run_make_own (P := Try.prog) (w := w) w.heap.size 22 128 i0 _ 5 und_grades hi hz0 hz1 .i64 .i64 gs.length (by rw [hz2]; omega) (by unfold maxLen; omega) (Nat.le_refl _)
 have hb2 := below_none hgr2
 obtain ⟨v, w3, hrun3, hown3, hgr3⟩ := append_grades w2 22 w.heap.size gs.length d w.heap.size G gs hown2 (Nat.le_refl _) (hG.up hb2) hd
 have HO := Lib.hid hown3
 have HB : Hid (Below w.heap.size w w3) := Lib.hid (hb2.grown hgr3 hb2.size (fun k hk => by cases hk; exact Nat.le_refl _))
 clear hG hown2 hgr2 hown3 hgr3 hb2
 go_enter Try.func80, Try.ntmps80
 go_wp2_with (at_builtin; (refine wpList_append_run _ rfl _ _ _ _ rfl _ _ rfl rfl hrun3 ?_))
 go_ret
 exact ⟨v, rfl, HO.out, HB.out⟩
theorem row5_mono {w : World} {B B' n : Nat} {e : TypeId} {v : Value} {xs : List Value} (h : w.ownsRow B e 5 v n xs) (hb : B' ≤ B) : w.ownsRow B' e 5 v n xs := by
 obtain ⟨hl, h | ⟨g, cap, cur, ev, hB, r⟩⟩ := h
 ·exact ⟨hl, .inl h⟩
 ·exact ⟨hl, .inr ⟨g, cap, cur, ev, Nat.le_trans hb hB, r⟩⟩
set_option maxRecDepth 100000 in
set_option maxHeartbeats 2000000 in
theorem Own_any (err miss : Int) (G : Option Addr) (d : Nat) (gs : List Gr) (w : World) (hG : GradesAt w G gs) (hl : gs.length ≤ 1000) (hd : G = none → gs.length = 0 ∧ d = 0) :
  Calls Try.prog 17 #[.agg #[.int .i64 err, .int .i64 miss, .slice G gs.length d]] w fun e w' => ∃ G' d', e = .returned (.agg #[.int .i64 err, .int .i64 miss, .slice G' gs.length d']) ∧ OwnGrades w' w.heap.size (.slice G' gs.length d') gs ∧ gs.length ≤ d' ∧ Below w.heap.size w w' := by
 have HG := Lib.hid hG
 clear hG
 go_enter Try.func17, Try.ntmps17
 go_wp2_with fail
 refine (DupGrades_any G d gs _ (HG.out.up zg) hl hd).mono ?_
 rintro e w2 ⟨v, rfl, hown, hb2⟩
 have Hg2 := Lib.hid (Holds.up (zp4 : Holds _ (w.heap.size) 24 #[.int .i64 err, .int .i64 miss, .slice G gs.length d]) hb2)
 have Hr2 := Lib.hid (Holds.up (zp4 : Holds _ (w.heap.size + 1) 24 #[.int .i64 0, .int .i64 0, .slice none 0 0]) hb2)
 have HS2 : Hid (Below w.heap.size w w2) := Lib.hid (Below.trans zg (hb2.mono (by first | exact Nat.le_refl _ | omega | (simp; done) | (simp; omega))))
 have HB2 := HS2
 have hs2 := HB2.out.size
 have hst2 := HS2.out.size
 clear hb2
 obtain ⟨G', d', rfl, hgd, _⟩ := hown.at_
 have HO := Lib.hid hown
 clear hown
 have hrl := Hr2.out
 obtain ⟨kg0, kg1, kg2⟩ := Hg2.out.c3
 obtain ⟨zg0, zg1, zg2⟩ := Hg2.out.f3
 have lt_g : w.heap.size < w2.heap.size := Hg2.out.lt
 obtain ⟨kr0, kr1, kr2⟩ := Hr2.out.c3
 obtain ⟨zr0, zr1, zr2⟩ := Hr2.out.f3
 have lt_r : w.heap.size + 1 < w2.heap.size := Hr2.out.lt
 have lt1 : w.heap.size < w.heap.size + 1 + 1 := by omega
 have lt2 : w.heap.size + 1 < w.heap.size + 1 + 1 := by omega
 go_wp2_with fail
 refine ret_cell (t := 24) (cs := #[.int .i64 err, .int .i64 miss, .slice G' gs.length d']) rfl rfl zp4 Try.underlying24 rfl (by kernel_rfl) rfl ⟨G', d', rfl, ?_, hgd, HB2.out.trans zg⟩
 have ho := HO.out
 simp only [World.size_alloc] at ho
 exact row5_mono (row5_far (row5_far (row5_far (row5_far ho (p := ⟨w.heap.size, 2, none⟩) lt1 _) (p := ⟨w.heap.size + 1, 0, none⟩) lt2 _) (p := ⟨w.heap.size + 1, 1, none⟩) lt2 _) (p := ⟨w.heap.size + 1, 2, none⟩) lt2 _) (by omega)
theorem nil_row {w : World} {B n d : Nat} {e : TypeId} {G : Option Addr} {xs : List Value} (h : w.ownsRow B e 5 (.slice G n d) n xs) : G = none → n = 0 ∧ d = 0 := fun hG => by
 subst hG
 obtain ⟨_, ⟨e, rfl⟩ | ⟨g, cap, cur, e, _⟩⟩ := h
 ·simp at e; exact ⟨rfl, e⟩
 ·simp at e
theorem cart_zero {full emp : Int} {hs : List Hf} (hl : hs.length ≤ 6) (f0 : 0 ≤ full) (f1 : full ≤ 10000) (e0 : 0 ≤ emp) (e1 : emp ≤ 10000) (h : ∀ x ∈ hs, x.taken = true ∧ x.enough = true) : cartErr full emp hs = 0 := by
 unfold cartErr
 have hw : (within full 0 10000 && within emp 0 10000 && hs.all Hf.taken) = true := by
  simp only [within, Bool.and_eq_true, decide_eq_true_eq, List.all_eq_true]
  exact ⟨by omega, fun x hx => (h x hx).1⟩
 have he : hs.all Hf.enough = true := by
  simp only [List.all_eq_true]
  exact fun x hx => (h x hx).2
 rw [if_neg (by omega), hw, he]
 simp
theorem gate_wide {err miss er mi : Int} {gs : List Gr} (h : gateErr err miss gs = 0) (he : err ≤ er ∧ er ≤ 50) (hm : miss ≤ mi ∧ mi ≤ 20) : gateErr er mi gs = 0 := by
 obtain ⟨hl, a, b, c, d, hr, hf⟩ := gateErr_zero h
 unfold gateErr
 have hw : (within er 0 50 && within mi 0 20 && gs.all Gr.right) = true := by
  simp only [within, Bool.and_eq_true, decide_eq_true_eq, List.all_eq_true]
  exact ⟨by omega, hr⟩
 rw [if_neg (by omega), hw, hf]
 simp
def WdRel (n S CB : Nat) (a1 : Option Addr) (len1 cap1 : Nat) (full emp miss n0 n1 n2 n3 : Int) (hs : List Hf) (rr : Int) (w5 : World) (v46 : Value) (wr : World) : Prop :=
 ∃ (ex : List Hf) (sv : Value) (tk : Nat) (mm : Int), v46 = .int .i64 (ex.length : Int) ∧ (ex.length : Int) ≤ rr ∧ (∀ h ∈ ex, TakenOk miss n0 n1 n2 n3 h) ∧ tk ≤ 20 + 8 * ex.length ∧
  Holds wr S 172 #[.slice a1 len1 cap1, .int .i64 ((tk : Nat) : Int), .int .u32 mm] ∧ Holds wr CB 27 #[.int .i64 full, .int .i64 emp, sv] ∧ OwnHands wr n sv (hs ++ ex) ∧ But n [S, CB] w5 wr
theorem grades_other_block {w w' : World} {B b : Nat} {v : Value} {gs : List Gr} {t : TypeId} {cs : Array Value} (h : OwnGrades w B v gs) (s : Holds w b t cs) (ht : t ≠ 128) (g : w.grownBy w' (some b)) : OwnGrades w' B v gs := by
 obtain ⟨hl, h | ⟨k, cap, cur, ev, hB, hg, r⟩⟩ := h
 ·exact ⟨hl, .inl h⟩
 ·exact ⟨hl, .inr ⟨k, cap, cur, ev, hB, (g.block k (Array.getElem?_eq_some_iff.1 hg).1 (fun e => by cases e; have := s.symm.trans hg; simp at this; first | exact ht this.2 | exact ht this.2.1)).trans hg, r⟩⟩
theorem grown_set (w : World) (p : Addr) (v : Value) : w.grownBy (w.setCell p v) (some p.block) := ⟨rfl, rfl, rfl, by simp, fun i _ hi => Below.heap_setCell w p v i (fun e => hi (by rw [e]))⟩
theorem cell8_lo {w : World} {S : Nat} {b : Bx} (h : Holds w S 76 #[.int .i64 b.l0, .int .i64 b.h0, .int .i64 b.l1, .int .i64 b.h1, .int .i64 b.l2, .int .i64 b.h2, .int .i64 b.l3, .int .i64 b.h3]) {k : Nat} (hk : k < 4) : w.cell? ⟨S, k * 2, none⟩ = some (.int .i64 (bLo b k)) := by
 match k, hk with
 | 0, _ => exact h.cell 0
 | 1, _ => exact h.cell 2
 | 2, _ => exact h.cell 4
 | 3, _ => exact h.cell 6
theorem cell8_hi {w : World} {S : Nat} {b : Bx} (h : Holds w S 76 #[.int .i64 b.l0, .int .i64 b.h0, .int .i64 b.l1, .int .i64 b.h1, .int .i64 b.l2, .int .i64 b.h2, .int .i64 b.l3, .int .i64 b.h3]) {k : Nat} (hk : k < 4) : w.cell? ⟨S, k * 2 + 1, none⟩ = some (.int .i64 (bHi b k)) := by
 match k, hk with
 | 0, _ => exact h.cell 1
 | 1, _ => exact h.cell 3
 | 2, _ => exact h.cell 5
 | 3, _ => exact h.cell 7
end Go.Proofs.Ytdpgfaikmahmpaa
