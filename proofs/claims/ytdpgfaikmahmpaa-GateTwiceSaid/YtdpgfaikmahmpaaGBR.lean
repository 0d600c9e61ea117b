import Derived.Shelf.Spec.SlicesInsert
import Derived.Deep.MidRow
import Derived.Deep.CutRange
import Derived.Laws.AppendOwnNone
import Derived.Test.YtdpgfaikmahmpaaGAA
import Derived.Test.YtdpgfaikmahmpaaGAC
import Derived.Test.YtdpgfaikmahmpaaGAG
import Derived.Test.YtdpgfaikmahmpaaGAH
import Derived.Test.YtdpgfaikmahmpaaGAM
import Derived.Test.YtdpgfaikmahmpaaGAN
import Derived.Test.YtdpgfaikmahmpaaGAO
import Derived.Test.YtdpgfaikmahmpaaGAU
import Derived.Test.YtdpgfaikmahmpaaGAV
import Derived.Test.YtdpgfaikmahmpaaGAX
import Derived.Test.YtdpgfaikmahmpaaGBB
import Derived.Test.YtdpgfaikmahmpaaGBC
import Derived.Test.YtdpgfaikmahmpaaGBD
import Derived.Test.YtdpgfaikmahmpaaGBG
import Derived.Test.YtdpgfaikmahmpaaGBH
import Derived.Test.YtdpgfaikmahmpaaGBQ
set_option linter.unusedSimpArgs false
set_option linter.unusedVariables false
namespace Go.Proofs.Ytdpgfaikmahmpaa
open Go.RowKit
theorem bytes_of {w : World} {a : Option Addr} {len cap : Nat} {zs : List Int}
  (h : (a = none ∧ len = 0 ∧ cap = 0 ∧ zs = []) ∨ ∃ x, a = some x ∧ len ≤ cap ∧ cap ≤ maxLen ∧ zs.length = cap ∧ (∀ i, i < zs.length → w.cell? (x.add i) = some (.int .u8 (zs.getD i 0))) ∧ ∀ n ∈ zs, (Lit.int .u8 n).wf = true) : BytesAt w a len ∧ len ≤ 9223372036854775807 := by
 rcases h with ⟨rfl, rfl, rfl, rfl⟩ | ⟨x, rfl, hl, hm, hz, hc, _⟩
 ·exact ⟨fun h => absurd h (Nat.lt_irrefl 0), by decide⟩
 ·refine ⟨fun hp => ?_, by unfold maxLen at hm; omega⟩
  have h0 := hc 0 (by omega)
  obtain ⟨B, o, s⟩ := x
  have hs : s = none := by
   cases s with
   | none => rfl
   | some s =>
    simp only [Addr.add, if_true, World.cell?] at h0
    split at h0 <;> simp at h0
  subst hs
  refine ⟨B, o, rfl, fun k hk => ⟨zs.getD k 0, ?_⟩⟩
  have hk' := hc k (by omega)
  rcases Nat.eq_zero_or_pos k with rfl | hkp
  ·simpa [Addr.add] using hk'
  ·simpa [Addr.add, Nat.ne_of_gt hkp] using hk'
theorem u8_in {a : Int} (h : (Lit.int .u8 a).wf = true) : 0 ≤ a ∧ a ≤ 255 := by
 have h1 : IntKind.u8.min = 0 := by decide
 have h2 : IntKind.u8.max = 255 := by decide
 simp only [Lit.wf, h1, h2, Bool.and_eq_true, decide_eq_true_eq] at h
 exact h





open Go.RowKit Go.Maps
def RowIn (w : World) (a : Option Addr) (len cap : Nat) (zs : List Int) : Prop :=
 (a = none ∧ len = 0 ∧ cap = 0 ∧ zs = []) ∨ ∃ x, a = some x ∧ len ≤ cap ∧ cap ≤ maxLen ∧ zs.length = cap ∧ (∀ i, i < zs.length → w.cell? (x.add i) = some (.int .u8 (zs.getD i 0))) ∧ ∀ n ∈ zs, (Lit.int .u8 n).wf = true

theorem MadeOk.snoc {err miss full emp m0 m1 m2 m3 : Int} {gs : List Gr} {hs : List Hf} (h : MadeOk err miss full emp m0 m1 m2 m3 gs hs) {x : Hf} (hx : TakenOk miss m0 m1 m2 m3 x) : MadeOk err miss full emp m0 m1 m2 m3 gs (hs ++ [x]) :=
 { h with
  taken := by
   intro y hy
   rcases List.mem_append.1 hy with hy | hy
   ·exact h.taken y hy
   ·rw [List.mem_singleton] at hy; subst hy; exact hx }
theorem hands_flat {w : World} {B o : Nat} {hs : List Hf} (hc : ∀ k h, hs[k]? = some h → w.cell? ⟨B, o + k * 5, none⟩ = some (.int .i64 h.spot) ∧ w.cell? ⟨B, o + k * 5 + 1, none⟩ = some (.int .i64 h.g0) ∧
  w.cell? ⟨B, o + k * 5 + 2, none⟩ = some (.int .i64 h.g1) ∧ w.cell? ⟨B, o + k * 5 + 3, none⟩ = some (.int .i64 h.g2) ∧ w.cell? ⟨B, o + k * 5 + 4, none⟩ = some (.int .i64 h.g3)) :
  ∀ j v, (hs.flatMap Hf.cells)[j]? = some v → w.cell? ((⟨B, o, none⟩ : Addr).add j) = some v := by
 intro j v hj
 rw [Addr.add_mid]
 have hlt : j < hs.length * 5 := by rw [← flat_len Hf.cells (fun _ => rfl) hs]; exact (List.getElem?_eq_some_iff.1 hj).1
 have hk : j / 5 < hs.length := by omega
 have hx : hs[j / 5]? = some hs[j / 5] := List.getElem?_eq_getElem hk
 have h5 : j % 5 < 5 := Nat.mod_lt _ (by decide)
 have hq := flat_at Hf.cells (fun _ => rfl) hs (j / 5) (j % 5) _ hx h5
 rw [show j / 5 * 5 + j % 5 = j from by omega, hj] at hq
 obtain ⟨c0, c1, c2, c3, c4⟩ := hc _ _ hx
 have hjj : o + j = o + j / 5 * 5 + j % 5 := by omega
 rw [hjj]
 generalize j % 5 = i at hq h5
 match i, h5 with
 | 0, _ => exact c0.trans hq.symm
 | 1, _ => exact c1.trans hq.symm
 | 2, _ => exact c2.trans hq.symm
 | 3, _ => exact c3.trans hq.symm
 | 4, _ => exact c4.trans hq.symm
theorem hands_one (hs : List Hf) : ∀ v ∈ hs.flatMap Hf.cells, v.oneCell' = true := by
 intro v hv
 obtain ⟨x, _, hx⟩ := List.mem_flatMap.1 hv
 simp only [Hf.cells, List.mem_cons, List.not_mem_nil, or_false] at hx
 rcases hx with rfl | rfl | rfl | rfl | rfl <;> rfl
theorem wpList_store_run {P : Program} (w : World) {ops : Array Oper} {rest : List Oper} {op : Oper} {a : Act} {Q : Exit → Act → World → Prop} (hgd : op.guard = none) (ty : TypeId) (x y : Operand) (ho : op.op = .store ty x y)
  (p : Addr) {v : Value} (hx : a.eval x = .pointer (some p)) (hy : a.eval y = v) {w' : World} (hr : (storeVar ty p v).run P w = .ok () w')
  (h : wpList P ops Q rest (a.put op.dst undef) w') : wpList P ops Q (op :: rest) a w :=
 wpList_plain hgd fun _ hK => by
  unfold Oper.wp execOp
  simp only [ho, hx, hy, Instr.storeAt, Instr.sureAddr, Sem.run_bind, Sem.run_pure, Result.andThen_ok, hr]
  exact hK _ _ h



theorem HandsAt.pre {w : World} {A : Option Addr} {xs ys : List Hf} (h : HandsAt w A (xs ++ ys)) : HandsAt w A xs := fun hn => by
 obtain ⟨B, o, e, hc⟩ := h (by rw [List.length_append]; omega)
 exact ⟨B, o, e, fun k x hx => hc k x (by rw [List.getElem?_append_left (List.getElem?_eq_some_iff.1 hx).1]; exact hx)⟩
theorem Holds.other {W w : World} {B mb : Nat} {t u : TypeId} {cs ds : Array Value} (h : Holds W B t cs) (s : Holds W mb u ds) (g : W.grownBy w (some mb)) (hne : t ≠ u) : Holds w B t cs :=
 h.grown g (fun e => by subst e; have h1 := h.symm.trans s; simp at h1; exact hne h1.2)
section
variable {P : Program} {ops : Array Oper} {Q : Exit → Act → World → Prop}
end
section
variable {P : Program} {ops : Array Oper} {Q : Exit → Act → World → Prop}
end
structure But (n : Nat) (L : List Nat) (w w' : World) : Prop where
 os : w'.os = w.os
 tape : w'.tape = w.tape
 output : w'.output = w.output
 size : w.heap.size ≤ w'.heap.size
 low : ∀ k, k < n → w'.heap[k]? = w.heap[k]?
 block : ∀ k, k < w.heap.size → k ∉ L → (∀ cs f, w.heap[k]? ≠ some (.cells cs 30 f)) → w'.heap[k]? = w.heap[k]?
theorem But.refl (n : Nat) (L : List Nat) (w : World) : But n L w w := ⟨rfl, rfl, rfl, Nat.le_refl _, fun _ _ => rfl, fun _ _ _ _ => rfl⟩
theorem But.up {n : Nat} {L : List Nat} {w w' w'' : World} (h : But n L w w') (hn : n ≤ w.heap.size) (hb : Below w'.heap.size w' w'') : But n L w w'' :=
  ⟨hb.os.trans h.os, hb.tape.trans h.tape, hb.output.trans h.output, Nat.le_trans h.size hb.size, fun k hk => (hb.block k (Nat.lt_of_lt_of_le hk (Nat.le_trans hn h.size))).trans (h.low k hk),
   fun k hk hL hne => (hb.block k (Nat.lt_of_lt_of_le hk h.size)).trans (h.block k hk hL hne)⟩
theorem But.listed {n : Nat} {L : List Nat} {w w' w'' : World} {b : Nat} (h : But n L w w') (hn : n ≤ w.heap.size) (hg : w'.grownBy w'' (some b)) (hL : b ∈ L) (hb : n ≤ b) : But n L w w'' :=
  ⟨hg.os.trans h.os, hg.tape.trans h.tape, hg.output.trans h.output, Nat.le_trans h.size hg.size, fun k hk => (hg.block k (Nat.lt_of_lt_of_le hk (Nat.le_trans hn h.size)) (fun e => by cases e; omega)).trans (h.low k hk),
   fun k hk hL' hne => (hg.block k (Nat.lt_of_lt_of_le hk h.size) (fun e => by cases e; exact hL' hL)).trans (h.block k hk hL' hne)⟩
theorem But.row {n : Nat} {L : List Nat} {w w' w'' : World} {v : Value} {B m : Nat} {xs : List Value} (h : But n L w w') (hn : n ≤ w.heap.size) (hr : w'.ownsRow B 30 5 v m xs) (hB : n ≤ B) (hg : w'.grownBy w'' v.ownBlock) : But n L w w'' := by
 have hk : ∀ k, v.ownBlock = some k → n ≤ k ∧ ∃ cur, w'.heap[k]? = some (.cells cur 30 (0, 0)) := by
  obtain ⟨_, ⟨rfl, _⟩ | ⟨g, cap, cur, rfl, hBg, hgg, _⟩⟩ := hr
  ·intro k hk; cases hk
  ·intro k hk; cases hk; exact ⟨Nat.le_trans hB hBg, cur, hgg⟩
 refine ⟨hg.os.trans h.os, hg.tape.trans h.tape, hg.output.trans h.output, Nat.le_trans h.size hg.size, fun k hkn => ?_, fun k hkw hL hne => ?_⟩
 ·refine (hg.block k (Nat.lt_of_lt_of_le hkn (Nat.le_trans hn h.size)) (fun e => ?_)).trans (h.low k hkn)
  have := (hk k e.symm).1
  omega
 ·have e := h.block k hkw hL hne
  refine (hg.block k (Nat.lt_of_lt_of_le hkw h.size) (fun e' => ?_)).trans e
  obtain ⟨_, cur, hc⟩ := hk k e'.symm
  exact hne cur (0, 0) (e ▸ hc)
theorem But.trans {n : Nat} {L : List Nat} {w w' w'' : World} (h : But n L w w') (hn : n ≤ w.heap.size) (h2 : But n L w' w'') : But n L w w'' :=
  ⟨h2.os.trans h.os, h2.tape.trans h.tape, h2.output.trans h.output, Nat.le_trans h.size h2.size, fun k hk => (h2.low k hk).trans (h.low k hk),
   fun k hk hL hne => by
    have e := h.block k hk hL hne
    exact (h2.block k (Nat.lt_of_lt_of_le hk h.size) hL (fun cs f => by rw [e]; exact hne cs f)).trans e⟩
theorem But.below {n : Nat} {L : List Nat} {w w' : World} (h : But n L w w') : Below n w w' := ⟨h.os, h.tape, h.output, h.size, h.low⟩
theorem Holds.but {n : Nat} {L : List Nat} {w w' : World} {B : Nat} {t : TypeId} {cs : Array Value} (h : Holds w B t cs) (b : But n L w w') (hL : B ∉ L) (ht : t ≠ 30) : Holds w' B t cs :=
 (b.block B h.lt hL (fun cs' f e => by have := h.symm.trans e; simp at this; first | exact ht this.2 | exact ht this.2.1)).trans h
theorem OwnGrades.but {n : Nat} {L : List Nat} {w w' : World} {B : Nat} {v : Value} {gs : List Gr} (h : OwnGrades w B v gs) (b : But n L w w') (hL : ∀ l ∈ L, ∀ cs f, w.heap[l]? ≠ some (.cells cs 128 f)) : OwnGrades w' B v gs := by
 obtain ⟨hl, h | ⟨g, cap, cur, ev, hB, hg, r⟩⟩ := h
 ·exact ⟨hl, .inl h⟩
 ·exact ⟨hl, .inr ⟨g, cap, cur, ev, hB, (b.block g (Array.getElem?_eq_some_iff.1 hg).1 (fun hm => hL g hm _ _ hg) (fun cs' f e => by have := hg.symm.trans e; simp at this)).trans hg, r⟩⟩
theorem row_other_block {w w' : World} {B m b : Nat} {v : Value} {xs : List Value} {t : TypeId} {cs : Array Value} (h : w.ownsRow B 30 5 v m xs) (s : Holds w b t cs) (ht : t ≠ 30) (g : w.grownBy w' (some b)) : w'.ownsRow B 30 5 v m xs := by
 obtain ⟨hl, h | ⟨k, cap, cur, ev, hB, hg, r⟩⟩ := h
 ·exact ⟨hl, .inl h⟩
 ·exact ⟨hl, .inr ⟨k, cap, cur, ev, hB, (g.block k (Array.getElem?_eq_some_iff.1 hg).1 (fun e => by cases e; have := s.symm.trans hg; simp at this; first | exact ht this.2 | exact ht this.2.1)).trans hg, r⟩⟩
theorem Holds.row_turned {w w' : World} {B m b : Nat} {v : Value} {xs : List Value} {t : TypeId} {cs : Array Value} (s : Holds w b t cs) (h : w.ownsRow B 30 5 v m xs) (ht : t ≠ 30) (g : w.grownBy w' v.ownBlock) : Holds w' b t cs := by
 refine (g.block b s.lt (fun e => ?_)).trans s
 obtain ⟨_, ⟨rfl, _⟩ | ⟨k, cap, cur, rfl, _, hg, _⟩⟩ := h
 ·cases e
 ·cases e; have := s.symm.trans hg; simp at this; first | exact ht this.2 | exact ht this.2.1
theorem enough_parts {h : Hf} (t : h.enough = true) : 10 ≤ h.g0 + h.g1 + h.g2 + h.g3 ∧ h.g0 + h.g1 + h.g2 + h.g3 ≤ 200 := by
 have t' := t
 simp only [Hf.enough, within, Hf.sum, Bool.and_eq_true, decide_eq_true_eq] at t'
 exact ⟨of_decide_eq_true t'.1, of_decide_eq_true t'.2⟩
open Go.RowKit Go.Maps
def Sees (xs : List Int) (D : DataW Unit) : Prop := IsMap D ∧ ∀ n : Int, D.atKey (.int .i64 n) (.lit (.bool false)) = .lit (.bool (decide (n ∈ xs)))
theorem Sees.put {xs : List Int} {D : DataW Unit} (h : Sees xs D) (x : Int) : Sees (xs ++ [x]) (D.put (.int .i64 x) (.lit (.bool true))) := by
 refine ⟨h.1.put _ _, fun n => ?_⟩
 by_cases e : n = x
 ·subst e
  rw [atKey_put_same h.1 (by simp [WideAt.IsKeyLit])]
  simp
 ·rw [atKey_put_other (by intro e'; simp at e'; exact e e'), h.2 n]
  simp [e]


theorem below_none {w w' : World} (h : w.grownBy w' none) : Below w.heap.size w w' := ⟨h.os, h.tape, h.output, h.size, fun k hk => h.block k hk (by simp)⟩
theorem wpList_append_run {P : Program} (w : World) {ops : Array Oper} {rest : List Oper} {o : Oper} {a : Act} {Q : Exit → Act → World → Prop} (hgd : o.guard = none) (d s : Operand) (t t' : TypeId)
  (ho : o.op = .call { callee := .builtin .append, args := #[d, s], argTypes := #[t, t'] }) (v u : Value) (hd : a.eval d = v) (hs : a.eval s = u) {v' : Value} {w' : World}
  (hr : (Builtin.append_ #[t, t'] o.type #[v, u]).run P w = .ok v' w') (h : wpList P ops Q rest (a.put o.dst v') w') : wpList P ops Q (o :: rest) a w :=
 wpList_plain hgd fun _ hK => by
  unfold Oper.wp execOp
  simp only [ho, resolve, invoke, builtin, Sem.run_bind, Sem.run_pure, Result.andThen_ok, List.map_toArray, List.map_cons, List.map_nil, hd, hs, hr]
  exact hK _ _ h
theorem row5_mono {w : World} {B B' n : Nat} {e : TypeId} {v : Value} {xs : List Value} (h : w.ownsRow B e 5 v n xs) (hb : B' ≤ B) : w.ownsRow B' e 5 v n xs := by
 obtain ⟨hl, h | ⟨g, cap, cur, ev, hB, r⟩⟩ := h
 ·exact ⟨hl, .inl h⟩
 ·exact ⟨hl, .inr ⟨g, cap, cur, ev, Nat.le_trans hb hB, r⟩⟩
theorem nil_row {w : World} {B n d : Nat} {e : TypeId} {G : Option Addr} {xs : List Value} (h : w.ownsRow B e 5 (.slice G n d) n xs) : G = none → n = 0 ∧ d = 0 := fun hG => by
 subst hG
 obtain ⟨_, ⟨e, rfl⟩ | ⟨g, cap, cur, e, _⟩⟩ := h
 ·simp at e; exact ⟨rfl, e⟩
 ·simp at e
theorem cart_zero {full emp : Int} {hs : List Hf} (hl : hs.length ≤ 6) (f0 : 0 ≤ full) (f1 : full ≤ 10000) (e0 : 0 ≤ emp) (e1 : emp ≤ 10000) (h : ∀ x ∈ hs, x.taken = true ∧ x.enough = true) : cartErr full emp hs = 0 := by
 unfold cartErr
 have hw : (within full 0 10000 && within emp 0 10000 && hs.all Hf.taken) = true := by
  simp only [within, Bool.and_eq_true, decide_eq_true_eq, List.all_eq_true]
  exact ⟨by omega, fun x hx => (h x hx).1⟩
 have he : hs.all Hf.enough = true := by
  simp only [List.all_eq_true]
  exact fun x hx => (h x hx).2
 rw [if_neg (by omega), hw, he]
 simp
def WdRel (n S CB : Nat) (a1 : Option Addr) (len1 cap1 : Nat) (full emp miss n0 n1 n2 n3 : Int) (hs : List Hf) (rr : Int) (w5 : World) (v46 : Value) (wr : World) : Prop :=
 ∃ (ex : List Hf) (sv : Value) (tk : Nat) (mm : Int), v46 = .int .i64 (ex.length : Int) ∧ (ex.length : Int) ≤ rr ∧ (∀ h ∈ ex, TakenOk miss n0 n1 n2 n3 h) ∧ tk ≤ 20 + 8 * ex.length ∧
  Holds wr S 172 #[.slice a1 len1 cap1, .int .i64 ((tk : Nat) : Int), .int .u32 mm] ∧ Holds wr CB 27 #[.int .i64 full, .int .i64 emp, sv] ∧ OwnHands wr n sv (hs ++ ex) ∧ But n [S, CB] w5 wr
theorem grades_other_block {w w' : World} {B b : Nat} {v : Value} {gs : List Gr} {t : TypeId} {cs : Array Value} (h : OwnGrades w B v gs) (s : Holds w b t cs) (ht : t ≠ 128) (g : w.grownBy w' (some b)) : OwnGrades w' B v gs := by
 obtain ⟨hl, h | ⟨k, cap, cur, ev, hB, hg, r⟩⟩ := h
 ·exact ⟨hl, .inl h⟩
 ·exact ⟨hl, .inr ⟨k, cap, cur, ev, hB, (g.block k (Array.getElem?_eq_some_iff.1 hg).1 (fun e => by cases e; have := s.symm.trans hg; simp at this; first | exact ht this.2 | exact ht this.2.1)).trans hg, r⟩⟩
theorem grown_set (w : World) (p : Addr) (v : Value) : w.grownBy (w.setCell p v) (some p.block) := ⟨rfl, rfl, rfl, by simp, fun i _ hi => Below.heap_setCell w p v i (fun e => hi (by rw [e]))⟩
end Go.Proofs.Ytdpgfaikmahmpaa
