import Derived.Deep.OwnRows
import Derived.Test.YtifffonoipapgaaVAA
import Derived.Test.YtifffonoipapgaaVAC
import Derived.Test.YtifffonoipapgaaVAH
import Derived.Test.YtifffonoipapgaaVAO
import Derived.Test.YtifffonoipapgaaVAU
import Derived.Test.YtifffonoipapgaaVAV
import Derived.Test.YtifffonoipapgaaVAX
import Derived.Test.YtifffonoipapgaaVBB
import Derived.Test.YtifffonoipapgaaVBE
import Derived.Test.YtifffonoipapgaaVBF
import Derived.Test.YtifffonoipapgaaVBG
import Derived.Test.YtifffonoipapgaaVBH
set_option linter.unusedSimpArgs false
set_option linter.unusedVariables false
namespace Go.Proofs.Ytifffonoipapgaa
open Go.RowKit
theorem Holds.row {w w' : World} {B : Nat} {t : TypeId} {cs : Array Value} {ob : Option Nat} (h : Holds w B t cs) (hg : w.grownBy w' ob) (hB : ∀ k, ob = some k → B < k) : Holds w' B t cs :=
 (hg.block B h.lt (fun e => by have := hB B e.symm; omega)).trans h
theorem row5_base {w : World} {B B' n : Nat} {e : TypeId} {v : Value} {xs : List Value} (h : w.ownsRow B e 5 v n xs) (hB' : B' ≤ B) : w.ownsRow B' e 5 v n xs := by
 obtain ⟨hl, h | ⟨g, cap, cur, ev, hB, hh, r⟩⟩ := h
 ·exact ⟨hl, .inl h⟩
 ·exact ⟨hl, .inr ⟨g, cap, cur, ev, Nat.le_trans hB' hB, hh, r⟩⟩
theorem OwnHands.base {w : World} {B B' : Nat} {v : Value} {hs : List Hf} (h : OwnHands w B v hs) (hB : B' ≤ B) : OwnHands w B' v hs := row5_base h hB
theorem OwnGrades.base {w : World} {B B' : Nat} {v : Value} {gs : List Gr} (h : OwnGrades w B v gs) (hB : B' ≤ B) : OwnGrades w B' v gs := row5_base h hB
def GrB (a b c d : Int) : Prop := (10 ≤ a ∧ a ≤ 38) ∧ (1 ≤ b ∧ b ≤ 14) ∧ (0 ≤ c ∧ c ≤ 8) ∧ 1 ≤ d ∧ d ≤ 14
structure GradesOk (p : Int) (gs : List Gr) : Prop where
 p0 : 0 ≤ p
 p1 : p ≤ 100
 right : ∀ g ∈ gs, g.right = true
 last : ∀ g ∈ gs, p ≤ g.price
 falls : falls gs = true
theorem GradesOk.nil {p : Int} (h0 : 0 ≤ p) (h1 : p ≤ 100) : GradesOk p [] := ⟨h0, h1, by simp, by simp, rfl⟩
theorem falls_snoc : ∀ (gs : List Gr) (g : Gr), falls gs = true → (∀ x ∈ gs, g.price ≤ x.price) → falls (gs ++ [g]) = true
 | [], g, _, _ => rfl
 | [a], g, _, h => by
  have := h a (by simp)
  simp [falls, this]
 | a :: b :: l, g, hf, h => by
  simp only [falls, Bool.and_eq_true] at hf
  have ih := falls_snoc (b :: l) g hf.2 (fun x hx => h x (List.mem_cons_of_mem _ hx))
  simp only [List.cons_append, falls, Bool.and_eq_true]
  exact ⟨hf.1, by simpa using ih⟩
theorem GradesOk.snoc {p a b c d : Int} {gs : List Gr} (h : GradesOk p gs) (hb : GrB a b c d) : GradesOk p (gs ++ [⟨a, b, c, d, p⟩]) := by
 obtain ⟨p0, p1, hr, hl, hf⟩ := h
 obtain ⟨⟨a0, a1⟩, ⟨b0, b1⟩, ⟨c0, c1⟩, d0, d1⟩ := hb
 refine ⟨p0, p1, ?_, ?_, falls_snoc _ _ hf hl⟩
 ·intro g hg
  rcases List.mem_append.1 hg with hg | hg
  ·exact hr g hg
  ·simp only [List.mem_singleton] at hg
   subst hg
   simp only [Gr.right, within, Bool.and_eq_true, decide_eq_true_eq]
   omega
 ·intro g hg
  rcases List.mem_append.1 hg with hg | hg
  ·exact hl g hg
  ·simp only [List.mem_singleton] at hg
   subst hg
   exact Int.le_refl _
theorem GradesOk.less {p q : Int} {gs : List Gr} (h : GradesOk p gs) (h0 : 0 ≤ q) (h1 : q ≤ p) : GradesOk q gs :=
 ⟨h0, Int.le_trans h1 h.p1, h.right, fun g hg => Int.le_trans h1 (h.last g hg), h.falls⟩
structure MadeOk (err miss full empty m0 m1 m2 m3 : Int) (gs : List Gr) (hs : List Hf) : Prop where
 e0 : 0 ≤ err
 e1 : err ≤ 8
 i0 : 0 ≤ miss
 i1 : miss ≤ 6
 y0 : 0 ≤ empty
 y1 : empty ≤ 899
 f0 : empty ≤ full
 f1 : full ≤ empty + 1999
 mix : Mix4 m0 m1 m2 m3
 grades : ∃ p, GradesOk p gs
 taken : ∀ h ∈ hs, TakenOk miss m0 m1 m2 m3 h
theorem MadeOk.has {err miss full empty m0 m1 m2 m3 : Int} {gs : List Gr} {hs : List Hf} (h : MadeOk err miss full empty m0 m1 m2 m3 gs hs) : (boundsOf miss (fun _ => true) hs).has m0 m1 m2 m3 := by
 have hpos : ∀ x ∈ hs, 0 < x.sum := fun x hx => by have := (h.taken x hx).n0; omega
 rw [bounds_has hpos h.mix.sum]
 exact ⟨h.mix.any, fun k x hx _ => (h.taken x (List.mem_of_getElem? hx)).fits⟩

theorem cell4_at {w : World} {B : Nat} {T : TypeId} {g0 g1 g2 g3 : Int} (h : Holds w B T #[.int .i64 g0, .int .i64 g1, .int .i64 g2, .int .i64 g3]) {k : Nat} (hk : k < 4) : w.cell? ⟨B, k, none⟩ = some (.int .i64 (gat g0 g1 g2 g3 k)) := by
 rw [h.cell]
 match k, hk with
 | 0, _ => rfl
 | 1, _ => rfl
 | 2, _ => rfl
 | 3, _ => rfl
def fitK (miss n g m : Int) : Bool := decide (m * n - 40 * g ≤ 40 * miss) && decide (40 * g - m * n ≤ 40 * miss)
def fitTo (miss n : Int) (g m : Nat → Int) : Nat → Bool
 | 0 => true
 | k + 1 => fitTo miss n g m k && fitK miss n (g k) (m k)
def fitH (miss m0 m1 m2 m3 : Int) (h : Hf) : Bool := fitTo miss h.sum (gat h.g0 h.g1 h.g2 h.g3) (gat m0 m1 m2 m3) 4
theorem fitTo_false {miss n : Int} {g m : Nat → Int} {k : Nat} (h : fitK miss n (g k) (m k) = false) : ∀ j, k < j → fitTo miss n g m j = false := by
 intro j
 induction j with
 | zero => intro h; omega
 | succ j ih =>
  intro hj
  unfold fitTo
  by_cases hk : k = j
  ·subst hk; rw [h, Bool.and_false]
  ·rw [ih (by omega), Bool.false_and]
theorem fitH_iff {miss m0 m1 m2 m3 : Int} {h : Hf} : fitH miss m0 m1 m2 m3 h = true ↔ h.fitsM miss m0 m1 m2 m3 := by
 simp only [fitH, fitTo, fitK, Hf.fitsM, fitsK, gat, Bool.and_eq_true, decide_eq_true_eq, Bool.true_and]
 omega
theorem gat_of {g0 g1 g2 g3 lo hi : Int} (a0 : lo ≤ g0) (a1 : lo ≤ g1) (a2 : lo ≤ g2) (a3 : lo ≤ g3) (b0 : g0 ≤ hi) (b1 : g1 ≤ hi) (b2 : g2 ≤ hi) (b3 : g3 ≤ hi) (k : Nat) : lo ≤ gat g0 g1 g2 g3 k ∧ gat g0 g1 g2 g3 k ≤ hi := by
 unfold gat
 split <;> omega
def bLo (b : Bx) (k : Nat) : Int := gat b.l0 b.l1 b.l2 b.l3 k
def bHi (b : Bx) (k : Nat) : Int := gat b.h0 b.h1 b.h2 b.h3 k



open Go.RowKit Go.Maps

structure Mx where
 a : Int
 b : Int
 c : Int
 d : Int
def mk3 (a b c : Nat) : Mx := ⟨a, b, c, 40 - (a : Int) - (b : Int) - (c : Int)⟩
def rowD (a b d : Nat) : List Mx := (List.range d).map (mk3 a b)
def rowB (a b : Nat) : List Mx := (List.range b).flatMap fun y => rowD a y (41 - a - y)
def rowA (a : Nat) : List Mx := (List.range a).flatMap fun x => rowB x (41 - x)
def preM (a b d : Nat) : List Mx := rowA a ++ (rowB a b ++ rowD a b d)
theorem rowD_zero (a b : Nat) : rowD a b 0 = [] := rfl
theorem rowB_zero (a : Nat) : rowB a 0 = [] := rfl
theorem rowD_succ (a b d : Nat) : rowD a b (d + 1) = rowD a b d ++ [mk3 a b d] := by unfold rowD; rw [List.range_succ, List.map_append]; rfl
theorem rowB_succ (a b : Nat) : rowB a (b + 1) = rowB a b ++ rowD a b (41 - a - b) := by unfold rowB; rw [List.range_succ, List.flatMap_append]; simp
theorem rowA_succ (a : Nat) : rowA (a + 1) = rowA a ++ rowB a (41 - a) := by unfold rowA; rw [List.range_succ, List.flatMap_append]; simp
theorem pre_d (a b d : Nat) : preM a b (d + 1) = preM a b d ++ [mk3 a b d] := by unfold preM; rw [rowD_succ]; simp only [List.append_assoc]
theorem pre_b (a b : Nat) : preM a b (41 - a - b) = preM a (b + 1) 0 := by unfold preM; rw [rowB_succ, rowD_zero]; simp only [List.append_nil]
theorem pre_a (a : Nat) : preM a (41 - a) 0 = preM (a + 1) 0 0 := by unfold preM; rw [rowA_succ, rowD_zero, rowD_zero, rowB_zero]; simp only [List.append_nil]
theorem rowD_len (a b d : Nat) : (rowD a b d).length = d := by unfold rowD; simp
theorem rowB_len (a : Nat) : ∀ b, (rowB a b).length ≤ 41 * b := by
 intro b
 induction b with
 | zero => exact Nat.le_refl _
 | succ b ih => rw [rowB_succ, List.length_append, rowD_len]; omega
theorem rowA_len : ∀ a, (rowA a).length ≤ 1681 * a := by
 intro a
 induction a with
 | zero => exact Nat.le_refl _
 | succ a ih => rw [rowA_succ, List.length_append]; have := rowB_len a (41 - a); omega
theorem pre_len (a b d : Nat) : (preM a b d).length ≤ 1681 * a + 41 * b + d := by
 unfold preM
 rw [List.length_append, List.length_append, rowD_len]
 have := rowB_len a b
 have := rowA_len a
 omega
theorem mem_all {m : Mx} : m ∈ preM 41 0 0 ↔ Mix4 m.a m.b m.c m.d := by
 have e : preM 41 0 0 = rowA 41 := by unfold preM; simp [rowB_zero, rowD_zero]
 rw [e]
 unfold rowA rowB rowD
 simp only [List.mem_flatMap, List.mem_map, List.mem_range]
 constructor
 ·rintro ⟨x, hx, y, hy, z, hz, rfl⟩
  constructor <;> simp only [mk3] <;> omega
 ·obtain ⟨a, b, c, d⟩ := m
  rintro ⟨p0, p1, p2, p3, hs⟩
  simp only at p0 p1 p2 p3 hs
  refine ⟨a.toNat, by omega, b.toNat, by omega, c.toNat, by omega, ?_⟩
  simp only [mk3, Mx.mk.injEq]
  omega
def missTo (miss : Int) (hs : List Hf) (m : Mx) : Nat → Nat
 | 0 => 0
 | i + 1 => missTo miss hs m i + (match hs[i]? with | some h => if fitH miss m.a m.b m.c m.d h then 0 else 2 ^ i | none => 0)
theorem missTo_succ {miss : Int} {hs : List Hf} {m : Mx} {i : Nat} {h : Hf} (hh : hs[i]? = some h) : missTo miss hs m (i + 1) = missTo miss hs m i + (if fitH miss m.a m.b m.c m.d h then 0 else 2 ^ i) := by
 rw [missTo, hh]
theorem missTo_lt (miss : Int) (hs : List Hf) (m : Mx) : ∀ i, missTo miss hs m i < 2 ^ i := by
 intro i
 induction i with
 | zero => exact Nat.one_pos
 | succ i ih =>
  rw [missTo, Nat.pow_succ]
  generalize 2 ^ i = q at *
  split
  ·split <;> omega
  ·omega
theorem missTo_bit (miss : Int) (hs : List Hf) (m : Mx) : ∀ (n i : Nat) (h : Hf), i < n → hs[i]? = some h → (missTo miss hs m n).testBit i = !(fitH miss m.a m.b m.c m.d h) := by
 intro n
 induction n with
 | zero => intro i h hi; omega
 | succ n ih =>
  intro i h hi hh
  have hlt := missTo_lt miss hs m n
  by_cases e : i = n
  ·subst e
   rw [missTo_succ hh]
   cases fitH miss m.a m.b m.c m.d h with
   | true => simp only [if_true, Nat.add_zero, Bool.not_true]; exact Nat.testBit_lt_two_pow hlt
   | false => simp only [Bool.false_eq_true, if_false, Bool.not_false]; rw [Nat.add_comm, Nat.testBit_two_pow_add_eq, Nat.testBit_lt_two_pow hlt]; rfl
  ·have := ih i h (by omega) hh
   rw [missTo]
   split
   ·split
    ·rw [Nat.add_zero]; exact this
    ·rw [Nat.add_comm, Nat.testBit_two_pow_add_gt (by omega)]; exact this
   ·rw [Nat.add_zero]; exact this
def listOf (miss : Int) (hs : List Hf) (l : List Mx) (s : Nat) : List Mx := l.filter fun m => missTo miss hs m hs.length == s
theorem listOf_snoc (miss : Int) (hs : List Hf) (l : List Mx) (m : Mx) (s : Nat) : listOf miss hs (l ++ [m]) s = listOf miss hs l s ++ (if missTo miss hs m hs.length = s then [m] else []) := by
 unfold listOf
 rw [List.filter_append]
 congr 1
 by_cases h : missTo miss hs m hs.length = s
 ·rw [if_pos h]; simp [h]
 ·rw [if_neg h]; simp [h]
theorem listOf_len (miss : Int) (hs : List Hf) (l : List Mx) (s : Nat) : (listOf miss hs l s).length ≤ l.length := List.length_filter_le _ _
def Mx.cells (m : Mx) : List Value := [.int .i64 m.a, .int .i64 m.b, .int .i64 m.c, .int .i64 m.d]
theorem mx_one (m : Mx) : ∀ u ∈ m.cells, u.oneCell' = true := by
 intro u hu
 simp only [Mx.cells, List.mem_cons, List.not_mem_nil, or_false] at hu
 rcases hu with rfl | rfl | rfl | rfl <;> rfl
theorem info_four : (Try.prog.info? 28).map (fun i => (i.zero, i.size, i.bytes)) = some (some (.agg #[.int .i64 0, .int .i64 0, .int .i64 0, .int .i64 0]), 4, 32) := by kernel_rfl
theorem info_fours : (Try.prog.info? 77).map (fun i => (i.zero, i.size, i.bytes)) = some (some (.slice none 0 0), 1, 24) := by kernel_rfl
theorem und_fours : Try.prog.underlying 77 = some (.slice 28) := by kernel_rfl
theorem und_table : Try.prog.underlying 78 = some (.slice 77) := by kernel_rfl
theorem append_block {w : World} (base : Nat) (t ty e : TypeId) (i : TypeInfo) (z : Value) (size bytes : Nat) (ht : Try.prog.underlying t = some (.slice e)) (hi : Try.prog.info? e = some i) (hz : i.zero = some z)
  (hsize : i.size = size) (hby : i.bytes = bytes) (hzs : z.cells.size = size) (hsz : 0 < size) (v : Value) (n : Nat) (xs : List Value) (hown : w.ownsRow base e size v n xs)
  (a : Addr) (m c : Nat) (news : List Value) (hl : news.length = m * size) (hnews : ∀ j u, news[j]? = some u → w.cell? (a.add j) = some u) (h1 : ∀ u ∈ news, u.oneCell' = true)
  (h63 : n + m ≤ maxLen) (hbytes : (n + m) * bytes ≤ 140737488355328) {v' : Value} {w' : World} (hr : (Builtin.append_ #[t, t] ty #[v, .slice (some a) m c]).run Try.prog w = .ok v' w') :
  v'.ownBlock = v.ownBlock ∨ ∃ k, v'.ownBlock = some k ∧ w.heap.size ≤ k := by
 subst hsize
 subst hby
 rcases hown.2 with ⟨rfl, rfl⟩ | ⟨g, cap, cur, rfl, hbg, hg, hnc, hcm, hcs, htake⟩
 ·obtain ⟨v2, w2, hr2, hown2, _⟩ := run_append_own (P := Try.prog) w w.heap.size t ty e i z i.size i.bytes ht hi hz rfl rfl hzs hsz (.slice none 0 0) 0 [] (World.ownsRow_nil w _ e i.size) a m c news hl hnews h1 h63 hbytes (Nat.le_refl _)
  rw [hr2] at hr
  cases hr
  cases hk : v'.ownBlock with
  | none => exact .inl rfl
  | some k => exact .inr ⟨k, rfl, (hown2.lt k hk).1⟩
 ·by_cases hroom : n + m ≤ cap
  ·have hr2 := run_append_room (P := Try.prog) w t ty e i ht hi g n cap cur hg a m c news hl hnews h1 hroom (by rw [hl, hcs, ← Nat.add_mul]; exact Nat.mul_le_mul_right _ hroom)
   rw [hr2] at hr
   cases hr
   exact .inl rfl
  ·have hr2 := run_append_grow (P := Try.prog) w t ty e i z ht hi hz ⟨g, 0, none⟩ n cap xs hown.1 (hown.cells (g := g) rfl) a m c news hl hnews (by omega) (by simp only [maxLen] at h63; omega) (growslice_fits (by omega) hbytes)
   rw [hr2] at hr
   cases hr
   exact .inr ⟨_, rfl, Nat.le_refl _⟩
theorem rk_up {w w' : World} {B n k : Nat} {e : TypeId} {v : Value} {xs : List Value} (h : w.ownsRow B e k v n xs) (hb : Below w.heap.size w w') : w'.ownsRow B e k v n xs := by
 obtain ⟨hl, h | ⟨g, cap, cur, ev, hB, hg, r⟩⟩ := h
 ·exact ⟨hl, .inl h⟩
 ·exact ⟨hl, .inr ⟨g, cap, cur, ev, hB, (hb.block g (Array.getElem?_eq_some_iff.1 hg).1).trans hg, r⟩⟩
theorem rk_far {w : World} {B n k : Nat} {e : TypeId} {v : Value} {xs : List Value} (h : w.ownsRow B e k v n xs) {p : Addr} (hp : p.block < B) (u : Value) : (w.setCell p u).ownsRow B e k v n xs := by
 obtain ⟨hl, h | ⟨g, cap, cur, ev, hB, hg, r⟩⟩ := h
 ·exact ⟨hl, .inl h⟩
 ·exact ⟨hl, .inr ⟨g, cap, cur, ev, hB, (Below.heap_setCell w p u g (by omega)).trans hg, r⟩⟩
theorem rk_val {w : World} {B n k : Nat} {e : TypeId} {v : Value} {xs : List Value} (h : w.ownsRow B e k v n xs) : ∃ A c, v = .slice A n c ∧ n ≤ c ∧ c ≤ maxLen := by
 obtain ⟨hl, ⟨rfl, rfl⟩ | ⟨g, cap, cur, rfl, hB, hg, hn, hm, _⟩⟩ := h
 ·exact ⟨none, 0, rfl, Nat.le_refl _, by decide⟩
 ·exact ⟨_, cap, rfl, hn, hm⟩
def Fam (w : World) (B : Nat) (f : Nat → Value) (L : Nat → List Mx) : Prop :=
 (∀ s, s < 64 → w.ownsRow B 28 4 (f s) (L s).length ((L s).flatMap Mx.cells)) ∧ ∀ s t b, s < 64 → t < 64 → (f s).ownBlock = some b → (f t).ownBlock = some b → s = t
theorem Fam.up {w w' : World} {B : Nat} {f : Nat → Value} {L : Nat → List Mx} (h : Fam w B f L) (hb : Below w.heap.size w w') : Fam w' B f L := ⟨fun s hs => rk_up (h.1 s hs) hb, h.2⟩
theorem Fam.far {w : World} {B : Nat} {f : Nat → Value} {L : Nat → List Mx} (h : Fam w B f L) {p : Addr} (hp : p.block < B) (u : Value) : Fam (w.setCell p u) B f L := ⟨fun s hs => rk_far (h.1 s hs) hp u, h.2⟩
theorem Fam.nil (w : World) (B : Nat) : Fam w B (fun _ => .slice none 0 0) (fun _ => []) := ⟨fun _ _ => World.ownsRow_nil w B _ _, fun s t b _ _ h => by cases h⟩
theorem Fam.congr {w : World} {B : Nat} {f : Nat → Value} {L L' : Nat → List Mx} (h : Fam w B f L) (e : ∀ s, L' s = L s) : Fam w B f L' := ⟨fun s hs => by rw [e s]; exact h.1 s hs, h.2⟩
theorem Fam.step {w w' : World} {B s : Nat} {f : Nat → Value} {L : Nat → List Mx} {v' : Value} {m : Mx} (h : Fam w B f L) (hs : s < 64) (hown : w'.ownsRow B 28 4 v' ((L s).length + 1) ((L s).flatMap Mx.cells ++ m.cells)) (hg : w.grownBy w' (f s).ownBlock)
  (hblk : v'.ownBlock = (f s).ownBlock ∨ ∃ k, v'.ownBlock = some k ∧ w.heap.size ≤ k) : Fam w' B (fun j => if j = s then v' else f j) (fun j => if j = s then L s ++ [m] else L j) := by
 have key : ∀ t b, t < 64 → t ≠ s → v'.ownBlock = some b → (f t).ownBlock = some b → False := by
  intro t b ht hne hb hb2
  rcases hblk with e | ⟨k, e, hk⟩
  ·exact hne (h.2 t s b ht hs hb2 (e ▸ hb))
  ·rw [e] at hb; cases hb
   have := ((h.1 t ht).lt b hb2).2
   omega
 refine ⟨fun j hj => ?_, fun j t b hj ht h1 h2 => ?_⟩
 ·by_cases e : j = s
  ·subst e
   simp only [if_true]
   rw [List.length_append, List.flatMap_append]
   simpa using hown
  ·simp only [if_neg e]
   refine (h.1 j hj).kept hg ?_
   cases hk : (f j).ownBlock with
   | none => exact .inl rfl
   | some b => exact .inr fun e2 => e (h.2 j s b hj hs hk e2.symm)
 ·simp only [] at h1 h2
  by_cases e : j = s
  ·by_cases e2 : t = s
   ·rw [e, e2]
   ·rw [if_pos e] at h1; rw [if_neg e2] at h2
    exact (key t b ht e2 h1 h2).elim
  ·by_cases e2 : t = s
   ·rw [if_neg e] at h1; rw [if_pos e2] at h2
    exact (key j b hj e h2 h1).elim
   ·rw [if_neg e] at h1; rw [if_neg e2] at h2
    exact h.2 j t b hj ht h1 h2
def Tab (w : World) (O B : Nat) (f g : Nat → Value) (L : Nat → List Mx) : Prop := w.rowIs O 77 64 f ∧ Fam w B g L
theorem rowIs_up {w w' : World} {O n : Nat} {t : TypeId} {f : Nat → Value} (h : w.rowIs O t n f) (hb : Below w.heap.size w w') : w'.rowIs O t n f := h.of_block (hb.block O h.lt)
theorem Tab.up {w w' : World} {O B : Nat} {f g : Nat → Value} {L : Nat → List Mx} (h : Tab w O B f g L) (hb : Below w.heap.size w w') : Tab w' O B f g L := ⟨rowIs_up h.1 hb, h.2.up hb⟩
theorem Tab.append {w w' : World} {O B s : Nat} {f : Nat → Value} {L : Nat → List Mx} {v' : Value} {m : Mx} (h : Tab w O B f f L) (hO : O < B) (hs : s < 64) (hown : w'.ownsRow B 28 4 v' ((L s).length + 1) ((L s).flatMap Mx.cells ++ m.cells)) (hg : w.grownBy w' (f s).ownBlock)
  (hblk : v'.ownBlock = (f s).ownBlock ∨ ∃ k, v'.ownBlock = some k ∧ w.heap.size ≤ k) : Tab w' O B f (fun j => if j = s then v' else f j) (fun j => if j = s then L s ++ [m] else L j) := by
 refine ⟨h.1.of_block (hg.block O h.1.lt (fun e => ?_)), h.2.step hs hown hg hblk⟩
 have := ((h.2.1 s hs).lt O e.symm).1
 omega
theorem Tab.store {w : World} {O B s : Nat} {f : Nat → Value} {L : Nat → List Mx} {v' : Value} (h : Tab w O B f (fun j => if j = s then v' else f j) L) (hO : O < B) : Tab (w.setCell ⟨O, s, none⟩ v') O B (fun j => if j = s then v' else f j) (fun j => if j = s then v' else f j) L :=
 ⟨h.1.set s v', h.2.far hO v'⟩
def MixAt (w : World) (A : Option Addr) (ms : List Mx) : Prop := 0 < ms.length → ∃ B o, A = some ⟨B, o, none⟩ ∧ ∀ k x, ms[k]? = some x → w.cell? ⟨B, o + k * 4, none⟩ = some (.int .i64 x.a) ∧ w.cell? ⟨B, o + k * 4 + 1, none⟩ = some (.int .i64 x.b) ∧ w.cell? ⟨B, o + k * 4 + 2, none⟩ = some (.int .i64 x.c) ∧ w.cell? ⟨B, o + k * 4 + 3, none⟩ = some (.int .i64 x.d)
theorem MixAt.up {w w' : World} {A : Option Addr} {ms : List Mx} (h : MixAt w A ms) (hb : Below w.heap.size w w') : MixAt w' A ms := fun h0 => by
 obtain ⟨B, o, e, hc⟩ := h h0
 exact ⟨B, o, e, fun k x hx => ⟨up_cell hb (hc k x hx).1, up_cell hb (hc k x hx).2.1, up_cell hb (hc k x hx).2.2.1, up_cell hb (hc k x hx).2.2.2⟩⟩
def Row8 (w : World) (O : Nat) (f : Nat → Value) : Prop := w.rowIs O 76 8 f
theorem Row8.up {w w' : World} {O : Nat} {f : Nat → Value} (h : Row8 w O f) (hb : Below w.heap.size w w') : Row8 w' O f := rowIs_up h hb
theorem Row8.lt {w : World} {O : Nat} {f : Nat → Value} (h : Row8 w O f) : O < w.heap.size := World.rowIs.lt h
def put2 (f : Nat → Value) (k : Nat) (a b : Int) : Nat → Value := fun j => if j = k * 2 + 1 then .int .i64 b else if j = k * 2 then .int .i64 a else f j
theorem Row8.put2 {w : World} {O k : Nat} {f : Nat → Value} {a b : Int} (h : Row8 w O f) : Row8 ((w.setCell ⟨O, k * 2, none⟩ (.int .i64 a)).setCell ⟨O, k * 2 + 1, none⟩ (.int .i64 b)) O (put2 f k a b) := (World.rowIs.set h _ _).set _ _
theorem put2_lo (f : Nat → Value) (k : Nat) (a b : Int) : put2 f k a b (k * 2) = .int .i64 a := by unfold put2; rw [if_neg (by omega), if_pos rfl]
theorem put2_hi (f : Nat → Value) (k : Nat) (a b : Int) : put2 f k a b (k * 2 + 1) = .int .i64 b := by unfold put2; rw [if_pos rfl]
def DoneTo (b : Bx) (f : Nat → Value) (k : Nat) : Prop := ∀ j, j < k → f (j * 2) = .int .i64 (bLo b j) ∧ f (j * 2 + 1) = .int .i64 (bHi b j)
theorem DoneTo.next {b : Bx} {f : Nat → Value} {k : Nat} (h : DoneTo b f k) : DoneTo b (put2 f k (bLo b k) (bHi b k)) (k + 1) := by
 intro j hj
 by_cases e : j = k
 ·subst e; exact ⟨put2_lo _ _ _ _, put2_hi _ _ _ _⟩
 ·have := h j (by omega)
  unfold put2
  rw [if_neg (by omega), if_neg (by omega), if_neg (by omega), if_neg (by omega)]
  exact this
def apartB (p s : Nat) : Bool := p &&& s == 0
theorem apart_zero {p s : Nat} (h : p = 0 ∨ s = 0) : apartB p s = true := by
 rcases h with rfl | rfl <;> simp [apartB]
theorem apart_step (p s : Nat) : apartB p s = (!(decide (p % 2 = 1) && decide (s % 2 = 1)) && apartB (p / 2) (s / 2)) := by
 have h1 : (p &&& s) / 2 = p / 2 &&& s / 2 := Nat.and_div_two
 have h2 : (p &&& s) % 2 = 1 ↔ p % 2 = 1 ∧ s % 2 = 1 := Nat.and_mod_two_eq_one
 have h3 : (p &&& s = 0) ↔ (p / 2 &&& s / 2 = 0 ∧ ¬ (p % 2 = 1 ∧ s % 2 = 1)) := by rw [← h1, ← h2]; omega
 unfold apartB
 rw [← Bool.decide_and, Bool.eq_iff_iff]
 simp only [beq_iff_eq, Bool.and_eq_true, Bool.not_eq_true', decide_eq_false_iff_not]
 rw [h3]
 exact And.comm
theorem apart_any (p s : Nat) (hp : p < 4611686018427387904) (hs : s < 4611686018427387904) (w : World) : Calls Try.prog 110 #[.int .i64 (p : Int), .int .i64 (s : Int)] w fun e w' => e = .returned (.bool (apartB p s)) ∧ w' = w := by
 go_enter Try.func110, Try.ntmps110
 go_wp2_with fail
 go_loopw [0, 1] (fun v0 v1 wr => ∃ a b : Nat, v0 = .int .i64 (a : Int) ∧ v1 = .int .i64 (b : Int) ∧ a ≤ p ∧ b ≤ s ∧ Hid (apartB p s = apartB a b) ∧ wr = w) (fun v0 _ _ => (intOf v0).toNat)
 case atStart => exact ⟨p, s, rfl, rfl, Nat.le_refl _, Nat.le_refl _, Lib.hid rfl, rfl⟩
 case round =>
  obtain ⟨a, b, rfl, rfl, ha, hb, he, rfl⟩ := hrel
  by_cases h0 : 0 < a ∧ 0 < b
  ·obtain ⟨ha0, hb0⟩ := h0
   have ha' : (0 : Int) < (a : Int) := by omega
   have hb' : (0 : Int) < (b : Int) := by omega
   by_cases h1 : a % 2 = 1 ∧ b % 2 = 1
   ·have e1 : (a : Int) % 2 = 1 := by omega
    have e2 : (b : Int) % 2 = 1 := by omega
    have HE : Hid (apartB p s = false) := Lib.hid (by rw [he.out, apart_step, decide_eq_true h1.1, decide_eq_true h1.2]; rfl)
    clear he
    go_wp2_with fail
    go_ret
    exact ⟨by rw [HE.out]; rfl, rfl⟩
   ·have HE : Hid (apartB p s = apartB (a / 2) (b / 2)) := Lib.hid (by
     have hn : (!(decide (a % 2 = 1) && decide (b % 2 = 1))) = true := by rw [← Bool.decide_and, decide_eq_false h1]; rfl
     rw [he.out, apart_step a b, hn, Bool.true_and])
    clear he
    by_cases e1 : (a : Int) % 2 = 1
    ·have e2 : ¬ (b : Int) % 2 = 1 := by omega
     go_wp2_with fail
     go_roundw
     case rel => exact ⟨a / 2, b / 2, by go_num, by go_num, by omega, by omega, HE, by first | rfl | exact True.intro⟩
     case measure => simp [intOf]; omega
    ·go_wp2_with fail
     go_roundw
     case rel => exact ⟨a / 2, b / 2, by go_num, by go_num, by omega, by omega, HE, by first | rfl | exact True.intro⟩
     case measure => simp [intOf]; omega
  ·have HE : Hid (apartB p s = true) := Lib.hid (by rw [he.out]; exact apart_zero (by omega))
   clear he
   by_cases ha0 : 0 < a
   ·have ha' : (0 : Int) < (a : Int) := by omega
    have hb' : ¬ (0 : Int) < (b : Int) := by omega
    go_wp2_with fail
    go_ret
    exact ⟨by rw [HE.out]; rfl, rfl⟩
   ·have ha' : ¬ (0 : Int) < (a : Int) := by omega
    go_wp2_with fail
    go_ret
    exact ⟨by rw [HE.out]; rfl, rfl⟩
end Go.Proofs.Ytifffonoipapgaa
