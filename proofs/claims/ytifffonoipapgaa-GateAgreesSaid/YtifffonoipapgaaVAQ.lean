import Derived.Laws.AppendOwn
import Derived.OwnWalk
import Derived.Lib.LazyBuf
import Derived.Maps.AppendAt
import Derived.Test.YtifffonoipapgaaVAA
import Derived.Test.YtifffonoipapgaaVAC
import Derived.Test.YtifffonoipapgaaVAP
set_option linter.unusedSimpArgs false
set_option linter.unusedVariables false
namespace Go.Proofs.Ytifffonoipapgaa
open Go.RowKit
def OwnInts (w : World) (B : Nat) (v : Value) (xs : List Int) : Prop := w.ownsRow B 3 1 v xs.length (xs.map (Value.int .i64))
theorem ints_of_row {w : World} {B : Nat} {v : Value} {xs : List Int} (h : OwnInts w B v xs) : ∃ A c, v = .slice A xs.length c ∧ IntsAt w A xs := by
 obtain ⟨_, ⟨rfl, h0⟩ | ⟨g, cap, cur, rfl, _, hb, hn, _, hsz, ht⟩⟩ := h
 ·exact ⟨none, 0, by rw [h0], fun hp => by omega⟩
 ·refine ⟨some ⟨g, 0, none⟩, cap, rfl, fun _ => ⟨g, 0, rfl, fun k x hx => ?_⟩⟩
  have hk : k < xs.length := (List.getElem?_eq_some_iff.1 hx).1
  have h1 : (cur.toList.take (xs.length * 1))[k]? = (xs.map (Value.int .i64))[k]? := by rw [ht]
  rw [List.getElem?_take, if_pos (by omega), List.getElem?_map, hx] at h1
  simp only [World.cell?, hb, Nat.zero_add, Option.bind_some]
  simpa using h1
theorem OwnInts.up {w w' : World} {B : Nat} {v : Value} {xs : List Int} (h : OwnInts w B v xs) (hb : Below w.heap.size w w') : OwnInts w' B v xs := by
 obtain ⟨hl, h | ⟨g, cap, cur, e, hB, hg, r⟩⟩ := h
 ·exact ⟨hl, .inl h⟩
 ·exact ⟨hl, .inr ⟨g, cap, cur, e, hB, (hb.block g (Array.getElem?_eq_some_iff.1 hg).1).trans hg, r⟩⟩
theorem OwnInts.mono {w : World} {B B' : Nat} {v : Value} {xs : List Int} (h : OwnInts w B v xs) (hb : B' ≤ B) : OwnInts w B' v xs := by
 obtain ⟨hl, h | ⟨g, cap, cur, e, hB, hg, r⟩⟩ := h
 ·exact ⟨hl, .inl h⟩
 ·exact ⟨hl, .inr ⟨g, cap, cur, e, Nat.le_trans hb hB, hg, r⟩⟩
theorem info_int : (Try.prog.info? 3).map (fun i => (i.zero, i.size, i.bytes)) = some (some (.int .i64 0), 1, 8) := by kernel_rfl
theorem und_ints : Try.prog.underlying 87 = some (.slice 3) := by kernel_rfl
theorem eq_nil (a : Option Addr) (l c : Nat) (w : World) : (binOp .eql 87 (.slice a l c) (.slice none 0 0)).run Try.prog w = .ok (.bool a.isNone) w := Go.Lib.run_eql_slice_nil w 87 3 a l c 0 0 und_ints
theorem ints_cells {w : World} {B o : Nat} {xs : List Int} (hc : ∀ (k : Nat) (x : Int), xs[k]? = some x → w.cell? ⟨B, o + k, none⟩ = some (.int .i64 x)) :
  ∀ j u, (xs.map (Value.int .i64))[j]? = some u → w.cell? ((⟨B, o, none⟩ : Addr).add j) = some u := by
 intro j u h
 rw [List.getElem?_map] at h
 cases hx : xs[j]? with
 | none => rw [hx] at h; cases h
 | some x =>
  rw [hx] at h
  cases h
  unfold Addr.add
  split
  ·next h0 => subst h0; simpa using hc 0 x hx
  ·exact hc j x hx
theorem ints_one (xs : List Int) : ∀ u ∈ xs.map (Value.int .i64), u.oneCell' = true := by
 intro u hu
 obtain ⟨x, _, rfl⟩ := List.mem_map.1 hu
 rfl
set_option maxRecDepth 100000 in
theorem Clone_nil (w : World) :
  Calls Try.prog 77 #[.slice none 0 0] w fun e w' => e = .returned (.slice none 0 0) ∧ w = w' := by
 have hq := eq_nil
 go_enter Try.func77, Try.ntmps77
 go_wp2_with fail
 go_ret
 exact ⟨rfl, rfl⟩
def ClonedTo (w : World) (xs : List Int) (e : Ending) (w' : World) : Prop := ∃ v', e = .returned v' ∧ OwnInts w' w.heap.size v' xs ∧ Below w.heap.size w w'
set_option maxRecDepth 100000 in
set_option maxHeartbeats 1000000 in
theorem Clone_some (B o : Nat) (c : Nat) (xs : List Int) (w : World) (hA : IntsAt w (some ⟨B, o, none⟩) xs) (hl : xs.length ≤ 1000000) :
  Calls Try.prog 77 #[.slice (some ⟨B, o, none⟩) xs.length c] w (ClonedTo w xs) := by
 obtain ⟨i0, hi, hz0, hz1, hz2⟩ := info_parts info_int
 have hc : ∀ (k : Nat) (x : Int), xs[k]? = some x → w.cell? ⟨B, o + k, none⟩ = some (.int .i64 x) := fun k x hx => by
  obtain ⟨B', o', e, h⟩ := hA (by have := (List.getElem?_eq_some_iff.1 hx).1; omega)
  cases e
  exact h k x hx
 have HA := Lib.hid hc
 clear hA hc
 have hq := eq_nil
 go_enter Try.func77, Try.ntmps77
 go_wp2_with (at_builtin; (refine wpList_append_own _ rfl _ _ 87 rfl w.heap.size 3 i0 (.int .i64 0) 1 8 und_ints hi hz0 hz1 hz2 rfl (by decide) (.slice (some ⟨w.heap.size, 0, none⟩) 0 0) 0 [] rfl ⟨rfl, .inr ⟨w.heap.size, 0, #[], rfl, Nat.le_refl _, (Holds.new w 3 #[]), Nat.le_refl _, by decide, rfl, rfl⟩⟩ ⟨B, o, none⟩ xs.length c (xs.map (Value.int .i64)) rfl (by simp) (fun j u h => up_cell ((Below.refl _ _).alloc (Nat.le_refl _) _) (ints_cells HA.out j u h)) (ints_one xs) (by unfold maxLen; omega) (by omega) (by simp) ?_); intro v' w1 hown1 hgrow1 _; have HO := Lib.hid hown1; have HG := Lib.hid hgrow1; clear hown1 hgrow1)
 go_ret
 refine ⟨v', rfl, ?_, ?_⟩
 ·have := HO.out
  simp only [Nat.zero_add, List.nil_append] at this
  exact this
 ·exact ((Below.refl _ _).alloc (Nat.le_refl _) _).grown HG.out (by simp) (fun k e => by cases e; exact Nat.le_refl _)
def chooseK (n : Int) (size : Nat) : Nat → List Int → List (List Int)
 | 0, l => if l.length = size then [l] else []
 | k + 1, l => if l.length = size then [l] else chooseK n size k (l ++ [n - ((k + 1 : Nat) : Int)]) ++ chooseK n size k l
theorem chooseK_len (n : Int) (size : Nat) : ∀ (k : Nat) (l : List Int), (chooseK n size k l).length ≤ 2 ^ k := by
 intro k
 induction k with
 | zero => intro l; unfold chooseK; split <;> simp
 | succ k ih =>
  intro l
  unfold chooseK
  have h1 := ih (l ++ [n - ((k + 1 : Nat) : Int)])
  have h2 := ih l
  have h3 : 1 ≤ 2 ^ k := Nat.one_le_two_pow
  split
  ·simp only [List.length_singleton, Nat.pow_succ]; omega
  ·simp only [List.length_append, Nat.pow_succ]; omega
theorem chooseK_is {n : Int} {size k : Nat} {l : List Int} (h : l.length = size) : chooseK n size k l = [l] := by
 cases k <;> simp [chooseK, h]
structure Keep (w w' : World) : Prop where
 size : w.heap.size ≤ w'.heap.size
 same : ∀ (b : Nat) (cs : Array Value) (t : TypeId) (fr : Nat × Nat), w.heap[b]? = some (Obj.cells cs t fr) → t ≠ 87 → t ≠ 182 → w'.heap[b]? = some (Obj.cells cs t fr)
theorem Keep.refl (w : World) : Keep w w := ⟨Nat.le_refl _, fun _ _ _ _ h _ _ => h⟩
theorem Keep.trans {a b c : World} (h : Keep a b) (k : Keep b c) : Keep a c := ⟨Nat.le_trans h.size k.size, fun i cs t fr hi h1 h2 => k.same i cs t fr (h.same i cs t fr hi h1 h2) h1 h2⟩
theorem Keep.of {w w' : World} (h : Below w.heap.size w w') : Keep w w' := ⟨h.size, fun b _ _ _ hb _ _ => (h.block b (Array.getElem?_eq_some_iff.1 hb).1).trans hb⟩
theorem Keep.alloc {a w : World} (h : Keep a w) (o : Obj) : Keep a (w.alloc o) := h.trans (.of ((Below.refl _ _).alloc (Nat.le_refl _) o))
theorem Keep.set {a w : World} (h : Keep a w) {B : Nat} {cs : Array Value} (hB : Holds w B 182 cs) (i : Nat) (u : Value) : Keep a (w.setCell ⟨B, i, none⟩ u) :=
 h.trans ⟨by simp [World.setCell], fun b cs' t fr hb h1 h2 => (Below.heap_setCell w _ u b (fun e => by
  have e' : b = B := e
  subst e'
  have hB' : w.heap[b]? = _ := hB
  rw [hB'] at hb
  injection hb with hb
  injection hb with _ hb
  exact h2 hb.symm)).trans hb⟩
theorem Keep.grown {a w w' : World} (h : Keep a w) {B n : Nat} {v : Value} {xs : List Value} (hr : w.ownsRow B 87 1 v n xs) (hg : w.grownBy w' v.ownBlock) : Keep a w' :=
 h.trans ⟨hg.size, fun b cs t fr hb h1 h2 => (hg.block b (Array.getElem?_eq_some_iff.1 hb).1 (fun e => by
  obtain ⟨_, ⟨rfl, _⟩ | ⟨g, cap, cur, rfl, _, hgg, _⟩⟩ := hr
  ·cases e
  ·cases e
   rw [hgg] at hb
   injection hb with hb
   injection hb with _ hb
   exact h1 hb.symm)).trans hb⟩
theorem Holds.keep {w w' : World} {B : Nat} {t : TypeId} {cs : Array Value} (h : Holds w B t cs) (k : Keep w w') (h1 : t ≠ 87) (h2 : t ≠ 182) : Holds w' B t cs := k.same _ _ _ _ h h1 h2
theorem OwnInts.keep {w w' : World} {B : Nat} {v : Value} {xs : List Int} (h : OwnInts w B v xs) (k : Keep w w') : OwnInts w' B v xs := by
 obtain ⟨hl, h | ⟨g, cap, cur, e, hB, hg, r⟩⟩ := h
 ·exact ⟨hl, .inl h⟩
 ·exact ⟨hl, .inr ⟨g, cap, cur, e, hB, k.same _ _ _ _ hg (by decide) (by decide), r⟩⟩
def All2 (p : Value → List Int → Prop) : List Value → List (List Int) → Prop
 | [], [] => True
 | v :: vs, x :: xs => p v x ∧ All2 p vs xs
 | _, _ => False
theorem All2.imp {p q : Value → List Int → Prop} (h : ∀ v x, p v x → q v x) : ∀ {vs xs}, All2 p vs xs → All2 q vs xs
 | [], [], _ => trivial
 | _ :: _, _ :: _, ⟨a, b⟩ => ⟨h _ _ a, b.imp h⟩
theorem All2.snoc {p : Value → List Int → Prop} {v : Value} {x : List Int} (hp : p v x) : ∀ {vs xs}, All2 p vs xs → All2 p (vs ++ [v]) (xs ++ [x])
 | [], [], _ => ⟨hp, trivial⟩
 | _ :: _, _ :: _, ⟨a, b⟩ => ⟨a, b.snoc hp⟩
theorem All2.len {p : Value → List Int → Prop} : ∀ {vs xs}, All2 p vs xs → vs.length = xs.length
 | [], [], _ => rfl
 | _ :: _, _ :: _, ⟨_, b⟩ => by simp [b.len]
theorem All2.at_ {p : Value → List Int → Prop} : ∀ {vs xs}, All2 p vs xs → ∀ (i : Nat) (x : List Int), xs[i]? = some x → ∃ v, vs[i]? = some v ∧ p v x
 | [], [], _, i, x, h => by simp at h
 | v :: _, _ :: _, ⟨a, b⟩, i, x, h => by
  cases i with
  | zero => simp at h; subst h; exact ⟨v, rfl, a⟩
  | succ i => exact b.at_ i x (by simpa using h)
def Lists (w : World) (B : Nat) (v : Value) (xss : List (List Int)) : Prop := ∃ vs : List Value, w.ownsRow B 87 1 v vs.length vs ∧ All2 (fun lv xs => OwnInts w B lv xs) vs xss
theorem row_val {w : World} {B n : Nat} {e : TypeId} {v : Value} {xs : List Value} (h : w.ownsRow B e 1 v n xs) : ∃ A c, v = .slice A n c := by
 obtain ⟨_, ⟨rfl, rfl⟩ | ⟨g, cap, cur, rfl, _⟩⟩ := h
 ·exact ⟨_, _, rfl⟩
 ·exact ⟨_, _, rfl⟩
theorem Lists.up {w w' : World} {B : Nat} {v : Value} {xss : List (List Int)} (h : Lists w B v xss) (hb : Below w.heap.size w w') : Lists w' B v xss := by
 obtain ⟨vs, ⟨hl, h | ⟨g, cap, cur, e, hB, hg, r⟩⟩, ha⟩ := h
 ·exact ⟨vs, ⟨hl, .inl h⟩, ha.imp fun _ _ h => h.up hb⟩
 ·exact ⟨vs, ⟨hl, .inr ⟨g, cap, cur, e, hB, (hb.block g (Array.getElem?_eq_some_iff.1 hg).1).trans hg, r⟩⟩, ha.imp fun _ _ h => h.up hb⟩
theorem Lists.set {w : World} {B : Nat} {v : Value} {xss : List (List Int)} (h : Lists w B v xss) {Ba : Nat} {cs : Array Value} (hB : Holds w Ba 182 cs) (i : Nat) (u : Value) : Lists (w.setCell ⟨Ba, i, none⟩ u) B v xss := by
 have hne : ∀ (b : Nat) (cs' : Array Value) (t : TypeId) (fr : Nat × Nat), w.heap[b]? = some (Obj.cells cs' t fr) → t ≠ 182 → b ≠ Ba := fun b cs' t fr hb ht e => by
  subst e
  have hB' : w.heap[b]? = _ := hB
  rw [hB'] at hb
  injection hb with hb
  injection hb with _ hb
  exact ht hb.symm
 obtain ⟨vs, ⟨hl, h | ⟨g, cap, cur, e, hB0, hg, r⟩⟩, ha⟩ := h
 ·exact ⟨vs, ⟨hl, .inl h⟩, ha.imp fun _ _ h => h.keep ((Keep.refl _).set hB i u)⟩
 ·exact ⟨vs, ⟨hl, .inr ⟨g, cap, cur, e, hB0, (Below.heap_setCell w _ u g (hne _ _ _ _ hg (by decide))).trans hg, r⟩⟩, ha.imp fun _ _ h => h.keep ((Keep.refl _).set hB i u)⟩
theorem info_ints : (Try.prog.info? 87).map (fun i => (i.zero, i.size, i.bytes)) = some (some (.slice none 0 0), 1, 24) := by kernel_rfl
theorem und_lists : Try.prog.underlying 182 = some (.slice 87) := by kernel_rfl
theorem cf_choose (args : Array Value) (w : World) : (callFunc 146 args).run Try.prog w = .ok (.enter 146 args) w := by kernel_rfl
theorem Clone_own (B : Nat) (v : Value) (xs : List Int) (w : World) (h : OwnInts w B v xs) (hl : xs.length ≤ 1000000) :
  Calls Try.prog 77 #[v] w (ClonedTo w xs) := by
 obtain ⟨A, c, rfl, hA⟩ := ints_of_row h
 cases A with
 | none =>
  obtain ⟨_, ⟨e, h0⟩ | ⟨g, cap, cur, e, _⟩⟩ := h
  ·injection e with _ e1 e2
   rw [h0, e2]
   refine (Clone_nil w).mono ?_
   rintro e w' ⟨rfl, rfl⟩
   exact ⟨_, rfl, ⟨by simp, .inl ⟨rfl, h0⟩⟩, Below.refl _ _⟩
  ·cases e
 | some a =>
  obtain ⟨_, ⟨e, h0⟩ | ⟨g, cap, cur, e, _⟩⟩ := h
  ·cases e
  ·injection e with e1 _ e2
   cases e1
   exact Clone_some g 0 c xs w hA hl
def ChosePost (B0 Ba : Nat) (xss : List (List Int)) (W : World) (e : Ending) (W' : World) : Prop :=
 (∃ v, e = .returned v) ∧ Keep W W' ∧ Below B0 W W' ∧ ∃ v', Holds W' Ba 182 #[v'] ∧ Lists W' B0 v' xss
theorem ChoseBox {W w1 : World} {o : Obj} {B0 Ba n : Nat} {v : Value} {vs : List Value} (ha : Holds W Ba 182 #[v]) (hr : W.ownsRow B0 87 1 v n vs) (hg : (W.alloc o).grownBy w1 v.ownBlock) : Holds w1 Ba 182 #[v] := by
 have h1 := ha.alloc o
 refine (hg.block Ba h1.lt (fun e => ?_)).trans h1
 obtain ⟨_, ⟨rfl, _⟩ | ⟨g, cap, cur, rfl, _, hgg, _⟩⟩ := hr
 ·cases e
 ·cases e
  have h2 : W.heap[g]? = _ := ha
  rw [hgg] at h2
  injection h2 with h2
  injection h2 with _ h2
  cases h2
theorem row_block {w : World} {B n : Nat} {e : TypeId} {v : Value} {xs : List Value} (h : w.ownsRow B e 1 v n xs) : ∀ k, v.ownBlock = some k → B ≤ k := by
 obtain ⟨_, ⟨rfl, rfl⟩ | ⟨g, cap, cur, rfl, hB, _⟩⟩ := h
 ·intro k hk; cases hk
 ·intro k hk; cases hk; exact hB
theorem choose_leaf_post {W w1 : World} {o : Obj} {B0 Ba : Nat} {v v1 lv : Value} {vs : List Value} {xs : List Int} {xss : List (List Int)} (ha : Holds W Ba 182 #[v]) (hr : W.ownsRow B0 87 1 v vs.length vs)
  (hall : All2 (fun lv xs => OwnInts W B0 lv xs) vs xss) (hl : OwnInts W B0 lv xs) (hg : (W.alloc o).grownBy w1 v.ownBlock) (ho : w1.ownsRow B0 87 1 v1 (vs.length + 1) (vs ++ [lv])) (hB : B0 ≤ Ba) :
  ChosePost B0 Ba (xss ++ [xs]) W (.returned (.tuple #[])) (w1.setCell ⟨Ba, 0, none⟩ v1) := by
 have hb := ChoseBox ha hr hg
 have hS := ha.lt
 have k1 : Keep W w1 := ((Keep.refl W).alloc o).grown (hr.alloc o) hg
 have b1 : Below B0 W w1 := ((Below.refl B0 W).alloc (by omega) o).grown hg (by simp; omega) (row_block hr)
 refine ⟨⟨_, rfl⟩, k1.set hb 0 v1, b1.setCell hB _, v1, hb.put rfl, ?_⟩
 refine Lists.set (Ba := Ba) ⟨vs ++ [lv], ?_, (All2.snoc (hl.keep k1) (hall.imp fun _ _ h => h.keep k1))⟩ hb 0 v1
 simpa using ho
set_option maxRecDepth 100000 in
set_option maxHeartbeats 1000000 in
theorem choose_leaf (B0 Bs Ba Bn Bc k : Nat) (n f : Int) (size : Nat) (lv v : Value) (xs : List Int) (xss : List (List Int)) (W : World)
  (hs : Holds W Bs 3 #[.int .i64 (size : Int)]) (ha : Holds W Ba 182 #[v]) (hB : B0 ≤ Ba)
  (hL : Lists W B0 v xss) (hl : OwnInts W B0 lv xs) (he : xs.length = size) (hx : xss.length ≤ 100000) :
  Calls Try.prog 146 #[lv, .int .i64 f, .pointer (some ⟨Bs, 0, none⟩), .pointer (some ⟨Ba, 0, none⟩), .pointer (some ⟨Bn, 0, none⟩), .pointer (some ⟨Bc, 0, none⟩)] W (ChosePost B0 Ba (xss ++ chooseK n size k xs) W) := by
 obtain ⟨i0, hi, hz0, hz1, hz2⟩ := info_parts info_ints
 rw [chooseK_is he]
 have hBa := ha.lt
 obtain ⟨vs, hrow, hall⟩ := hL
 have hlen := hall.len
 obtain ⟨A', c', rfl⟩ := row_val hrow
 obtain ⟨A, c, rfl, _⟩ := ints_of_row hl
 have HR := Lib.hid hrow
 have HL := Lib.hid hl
 have HA := Lib.hid hall
 have HH := Lib.hid ha
 have c0 : W.cell? ⟨Bs, 0, none⟩ = some (.int .i64 (size : Int)) := hs.cell 0
 have c1 : W.cell? ⟨Ba, 0, none⟩ = some (.slice A' vs.length c') := ha.cell 0
 have z1 : W.frozen? ⟨Ba, 0, none⟩ = false := ha.frozen 0
 have hq : ((xs.length : Int) == (size : Int)) = true := by simp [he]
 have hq2 : (xs.length == size) = true := by simpa using he
 have HE := Lib.hid he
 have HN := Lib.hid hlen
 clear hrow hl hall ha hs he hlen
 go_enter Try.func146, Try.ntmps146
 go_wp2_with (at_builtin; refine wpList_append_own _ rfl _ _ 182 rfl B0 87 i0 (.slice none 0 0) 1 24 und_lists hi hz0 hz1 hz2 rfl (by decide) _ _ _ rfl (HR.out.alloc _) ⟨W.heap.size, 0, none⟩ 1 1 [.slice A xs.length c] rfl rfl (cell_one_new _ _ _) (by simp [Value.oneCell']) (by have := HN.out; unfold maxLen; omega) (by have := HN.out; omega) (by simp; omega) ?_; intro v' w1 hown1 hgrow1 _; obtain ⟨A1, c1', rfl⟩ := row_val hown1; have HO := Lib.hid hown1; have HG := Lib.hid hgrow1; clear hown1 hgrow1; have HB1 : Holds w1 Ba 182 #[.slice A' vs.length c'] := ChoseBox HH.out HR.out HG.out; have z2 : w1.frozen? ⟨Ba, 0, none⟩ = false := HB1.frozen 0; have c2 : w1.cell? ⟨Ba, 0, none⟩ = some (.slice A' vs.length c') := HB1.cell 0)
 go_end0
 exact choose_leaf_post HH.out HR.out HA.out HL.out HG.out HO.out hB
end Go.Proofs.Ytifffonoipapgaa
