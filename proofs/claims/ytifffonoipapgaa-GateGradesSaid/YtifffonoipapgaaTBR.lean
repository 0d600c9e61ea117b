import Derived.Deep.OwnRows
import Derived.Test.YtifffonoipapgaaTAA
import Derived.Test.YtifffonoipapgaaTAC
import Derived.Test.YtifffonoipapgaaTBF
import Derived.Test.YtifffonoipapgaaTBI
import Derived.Test.YtifffonoipapgaaTBQ
set_option linter.unusedSimpArgs false
set_option linter.unusedVariables false
namespace Go.Proofs.Ytifffonoipapgaa
open Go.RowKit
def Mx.cells (m : Mx) : List Value := [.int .i64 m.a, .int .i64 m.b, .int .i64 m.c, .int .i64 m.d]
theorem mx_one (m : Mx) : ∀ u ∈ m.cells, u.oneCell' = true := by
 intro u hu
 simp only [Mx.cells, List.mem_cons, List.not_mem_nil, or_false] at hu
 rcases hu with rfl | rfl | rfl | rfl <;> rfl
theorem info_four : (Try.prog.info? 28).map (fun i => (i.zero, i.size, i.bytes)) = some (some (.agg #[.int .i64 0, .int .i64 0, .int .i64 0, .int .i64 0]), 4, 32) := by kernel_rfl
theorem info_fours : (Try.prog.info? 77).map (fun i => (i.zero, i.size, i.bytes)) = some (some (.slice none 0 0), 1, 24) := by kernel_rfl
theorem und_fours : Try.prog.underlying 77 = some (.slice 28) := by kernel_rfl
theorem und_table : Try.prog.underlying 78 = some (.slice 77) := by kernel_rfl
theorem append_block {w : World} (base : Nat) (t ty e : TypeId) (i : TypeInfo) (z : Value) (size bytes : Nat) (ht : Try.prog.underlying t = some (.slice e)) (hi : Try.prog.info? e = some i) (hz : i.zero = some z)
  (hsize : i.size = size) (hby : i.bytes = bytes) (hzs : z.cells.size = size) (hsz : 0 < size) (v : Value) (n : Nat) (xs : List Value) (hown : w.ownsRow base e size v n xs)
  (a : Addr) (m c : Nat) (news : List Value) (hl : news.length = m * size) (hnews : ∀ j u, news[j]? = some u → w.cell? (a.add j) = some u) (h1 : ∀ u ∈ news, u.oneCell' = true)
  (h63 : n + m ≤ maxLen) (hbytes : (n + m) * bytes ≤ 140737488355328) {v' : Value} {w' : World} (hr : (Builtin.append_ #[t, t] ty #[v, .slice (some a) m c]).run Try.prog w = .ok v' w') :
  v'.ownBlock = v.ownBlock ∨ ∃ k, v'.ownBlock = some k ∧ w.heap.size ≤ k := by
 subst hsize
 subst hby
 rcases hown.2 with ⟨rfl, rfl⟩ | ⟨g, cap, cur, rfl, hbg, hg, hnc, hcm, hcs, htake⟩
 ·obtain ⟨v2, w2, hr2, hown2, _⟩ := run_append_own (P := Try.prog) w w.heap.size t ty e i z i.size i.bytes ht hi hz rfl rfl hzs hsz (.slice none 0 0) 0 [] (World.ownsRow_nil w _ e i.size) a m c news hl hnews h1 h63 hbytes (Nat.le_refl _)
  rw [hr2] at hr
  cases hr
  cases hk : v'.ownBlock with
  | none => exact .inl rfl
  | some k => exact .inr ⟨k, rfl, (hown2.lt k hk).1⟩
 ·by_cases hroom : n + m ≤ cap
  ·have hr2 := run_append_room (P := Try.prog) w t ty e i ht hi g n cap cur hg a m c news hl hnews h1 hroom (by rw [hl, hcs, ← Nat.add_mul]; exact Nat.mul_le_mul_right _ hroom)
   rw [hr2] at hr
   cases hr
   exact .inl rfl
  ·have hr2 := run_append_grow (P := Try.prog) w t ty e i z ht hi hz ⟨g, 0, none⟩ n cap xs hown.1 (hown.cells (g := g) rfl) a m c news hl hnews (by omega) (by simp only [maxLen] at h63; omega) (growslice_fits (by omega) hbytes)
   rw [hr2] at hr
   cases hr
   exact .inr ⟨_, rfl, Nat.le_refl _⟩
theorem rk_up {w w' : World} {B n k : Nat} {e : TypeId} {v : Value} {xs : List Value} (h : w.ownsRow B e k v n xs) (hb : Below w.heap.size w w') : w'.ownsRow B e k v n xs := by
 obtain ⟨hl, h | ⟨g, cap, cur, ev, hB, hg, r⟩⟩ := h
 ·exact ⟨hl, .inl h⟩
 ·exact ⟨hl, .inr ⟨g, cap, cur, ev, hB, (hb.block g (Array.getElem?_eq_some_iff.1 hg).1).trans hg, r⟩⟩
theorem rk_far {w : World} {B n k : Nat} {e : TypeId} {v : Value} {xs : List Value} (h : w.ownsRow B e k v n xs) {p : Addr} (hp : p.block < B) (u : Value) : (w.setCell p u).ownsRow B e k v n xs := by
 obtain ⟨hl, h | ⟨g, cap, cur, ev, hB, hg, r⟩⟩ := h
 ·exact ⟨hl, .inl h⟩
 ·exact ⟨hl, .inr ⟨g, cap, cur, ev, hB, (Below.heap_setCell w p u g (by omega)).trans hg, r⟩⟩
theorem rk_val {w : World} {B n k : Nat} {e : TypeId} {v : Value} {xs : List Value} (h : w.ownsRow B e k v n xs) : ∃ A c, v = .slice A n c ∧ n ≤ c ∧ c ≤ maxLen := by
 obtain ⟨hl, ⟨rfl, rfl⟩ | ⟨g, cap, cur, rfl, hB, hg, hn, hm, _⟩⟩ := h
 ·exact ⟨none, 0, rfl, Nat.le_refl _, by decide⟩
 ·exact ⟨_, cap, rfl, hn, hm⟩
def Fam (w : World) (B : Nat) (f : Nat → Value) (L : Nat → List Mx) : Prop :=
 (∀ s, s < 64 → w.ownsRow B 28 4 (f s) (L s).length ((L s).flatMap Mx.cells)) ∧ ∀ s t b, s < 64 → t < 64 → (f s).ownBlock = some b → (f t).ownBlock = some b → s = t
theorem Fam.up {w w' : World} {B : Nat} {f : Nat → Value} {L : Nat → List Mx} (h : Fam w B f L) (hb : Below w.heap.size w w') : Fam w' B f L := ⟨fun s hs => rk_up (h.1 s hs) hb, h.2⟩
theorem Fam.far {w : World} {B : Nat} {f : Nat → Value} {L : Nat → List Mx} (h : Fam w B f L) {p : Addr} (hp : p.block < B) (u : Value) : Fam (w.setCell p u) B f L := ⟨fun s hs => rk_far (h.1 s hs) hp u, h.2⟩
theorem Fam.nil (w : World) (B : Nat) : Fam w B (fun _ => .slice none 0 0) (fun _ => []) := ⟨fun _ _ => World.ownsRow_nil w B _ _, fun s t b _ _ h => by cases h⟩
theorem Fam.congr {w : World} {B : Nat} {f : Nat → Value} {L L' : Nat → List Mx} (h : Fam w B f L) (e : ∀ s, L' s = L s) : Fam w B f L' := ⟨fun s hs => by rw [e s]; exact h.1 s hs, h.2⟩
theorem Fam.step {w w' : World} {B s : Nat} {f : Nat → Value} {L : Nat → List Mx} {v' : Value} {m : Mx} (h : Fam w B f L) (hs : s < 64) (hown : w'.ownsRow B 28 4 v' ((L s).length + 1) ((L s).flatMap Mx.cells ++ m.cells)) (hg : w.grownBy w' (f s).ownBlock)
  (hblk : v'.ownBlock = (f s).ownBlock ∨ ∃ k, v'.ownBlock = some k ∧ w.heap.size ≤ k) : Fam w' B (fun j => if j = s then v' else f j) (fun j => if j = s then L s ++ [m] else L j) := by
 have key : ∀ t b, t < 64 → t ≠ s → v'.ownBlock = some b → (f t).ownBlock = some b → False := by
  intro t b ht hne hb hb2
  rcases hblk with e | ⟨k, e, hk⟩
  ·exact hne (h.2 t s b ht hs hb2 (e ▸ hb))
  ·rw [e] at hb; cases hb
   have := ((h.1 t ht).lt b hb2).2
   omega
 refine ⟨fun j hj => ?_, fun j t b hj ht h1 h2 => ?_⟩
 ·by_cases e : j = s
  ·subst e
   simp only [if_true]
   rw [List.length_append, List.flatMap_append]
   simpa using hown
  ·simp only [if_neg e]
   refine (h.1 j hj).kept hg ?_
   cases hk : (f j).ownBlock with
   | none => exact .inl rfl
   | some b => exact .inr fun e2 => e (h.2 j s b hj hs hk e2.symm)
 ·simp only [] at h1 h2
  by_cases e : j = s
  ·by_cases e2 : t = s
   ·rw [e, e2]
   ·rw [if_pos e] at h1; rw [if_neg e2] at h2
    exact (key t b ht e2 h1 h2).elim
  ·by_cases e2 : t = s
   ·rw [if_neg e] at h1; rw [if_pos e2] at h2
    exact (key j b hj e h2 h1).elim
   ·rw [if_neg e] at h1; rw [if_neg e2] at h2
    exact h.2 j t b hj ht h1 h2
def Tab (w : World) (O B : Nat) (f g : Nat → Value) (L : Nat → List Mx) : Prop := w.rowIs O 77 64 f ∧ Fam w B g L
theorem rowIs_up {w w' : World} {O n : Nat} {t : TypeId} {f : Nat → Value} (h : w.rowIs O t n f) (hb : Below w.heap.size w w') : w'.rowIs O t n f := h.of_block (hb.block O h.lt)
theorem Tab.up {w w' : World} {O B : Nat} {f g : Nat → Value} {L : Nat → List Mx} (h : Tab w O B f g L) (hb : Below w.heap.size w w') : Tab w' O B f g L := ⟨rowIs_up h.1 hb, h.2.up hb⟩
theorem Tab.append {w w' : World} {O B s : Nat} {f : Nat → Value} {L : Nat → List Mx} {v' : Value} {m : Mx} (h : Tab w O B f f L) (hO : O < B) (hs : s < 64) (hown : w'.ownsRow B 28 4 v' ((L s).length + 1) ((L s).flatMap Mx.cells ++ m.cells)) (hg : w.grownBy w' (f s).ownBlock)
  (hblk : v'.ownBlock = (f s).ownBlock ∨ ∃ k, v'.ownBlock = some k ∧ w.heap.size ≤ k) : Tab w' O B f (fun j => if j = s then v' else f j) (fun j => if j = s then L s ++ [m] else L j) := by
 refine ⟨h.1.of_block (hg.block O h.1.lt (fun e => ?_)), h.2.step hs hown hg hblk⟩
 have := ((h.2.1 s hs).lt O e.symm).1
 omega
theorem Tab.store {w : World} {O B s : Nat} {f : Nat → Value} {L : Nat → List Mx} {v' : Value} (h : Tab w O B f (fun j => if j = s then v' else f j) L) (hO : O < B) : Tab (w.setCell ⟨O, s, none⟩ v') O B (fun j => if j = s then v' else f j) (fun j => if j = s then v' else f j) L :=
 ⟨h.1.set s v', h.2.far hO v'⟩
def MixAt (w : World) (A : Option Addr) (ms : List Mx) : Prop := 0 < ms.length → ∃ B o, A = some ⟨B, o, none⟩ ∧ ∀ k x, ms[k]? = some x → w.cell? ⟨B, o + k * 4, none⟩ = some (.int .i64 x.a) ∧ w.cell? ⟨B, o + k * 4 + 1, none⟩ = some (.int .i64 x.b) ∧ w.cell? ⟨B, o + k * 4 + 2, none⟩ = some (.int .i64 x.c) ∧ w.cell? ⟨B, o + k * 4 + 3, none⟩ = some (.int .i64 x.d)
theorem MixAt.up {w w' : World} {A : Option Addr} {ms : List Mx} (h : MixAt w A ms) (hb : Below w.heap.size w w') : MixAt w' A ms := fun h0 => by
 obtain ⟨B, o, e, hc⟩ := h h0
 exact ⟨B, o, e, fun k x hx => ⟨up_cell hb (hc k x hx).1, up_cell hb (hc k x hx).2.1, up_cell hb (hc k x hx).2.2.1, up_cell hb (hc k x hx).2.2.2⟩⟩
theorem mx_at (ms : List Mx) (k j : Nat) (x : Mx) (hx : ms[k]? = some x) (hj : j < 4) : (ms.flatMap Mx.cells)[k * 4 + j]? = x.cells[j]? := by
 induction ms generalizing k with
 | nil => cases hx
 | cons a l ih =>
  rw [List.flatMap_cons]
  cases k with
  | zero =>
   rw [List.getElem?_cons_zero] at hx
   cases hx
   rw [List.getElem?_append_left (by simp [Mx.cells]; omega)]
   simp
  | succ k =>
   rw [List.getElem?_cons_succ] at hx
   rw [List.getElem?_append_right (by simp [Mx.cells]; omega), show (k + 1) * 4 + j - a.cells.length = k * 4 + j from by simp [Mx.cells]; omega]
   exact ih k hx
theorem mixrow_of {w : World} {B : Nat} {v : Value} {ms : List Mx} (h : w.ownsRow B 28 4 v ms.length (ms.flatMap Mx.cells)) : ∃ A q, v = .slice A ms.length q ∧ ms.length ≤ q ∧ MixAt w A ms := by
 obtain ⟨hl, ⟨rfl, h0⟩ | ⟨g, cap, cur, rfl, hB, hg, hn, _, hsz, ht⟩⟩ := h
 ·exact ⟨none, 0, by rw [h0], by omega, fun h => by omega⟩
 ·refine ⟨_, cap, rfl, hn, fun _ => ⟨g, 0, rfl, fun k x hx => ?_⟩⟩
  have hc : ∀ j u, (ms.flatMap Mx.cells)[j]? = some u → w.cell? ⟨g, j, none⟩ = some u := by
   intro j u hj
   have hlt : j < (ms.flatMap Mx.cells).length := (List.getElem?_eq_some_iff.1 hj).1
   rw [← ht, List.getElem?_take, if_pos (by omega)] at hj
   simp only [World.cell?, hg, Option.bind_some]
   simpa using hj
  have f := fun j (hj : j < 4) => mx_at ms k j x hx hj
  simp only [Nat.zero_add]
  exact ⟨hc (k * 4) _ (f 0 (by decide)), hc (k * 4 + 1) _ (f 1 (by decide)), hc (k * 4 + 2) _ (f 2 (by decide)), hc (k * 4 + 3) _ (f 3 (by decide))⟩
def Row8 (w : World) (O : Nat) (f : Nat → Value) : Prop := w.rowIs O 76 8 f
theorem Row8.up {w w' : World} {O : Nat} {f : Nat → Value} (h : Row8 w O f) (hb : Below w.heap.size w w') : Row8 w' O f := rowIs_up h hb
theorem Row8.lt {w : World} {O : Nat} {f : Nat → Value} (h : Row8 w O f) : O < w.heap.size := World.rowIs.lt h
def put2 (f : Nat → Value) (k : Nat) (a b : Int) : Nat → Value := fun j => if j = k * 2 + 1 then .int .i64 b else if j = k * 2 then .int .i64 a else f j
theorem Row8.put2 {w : World} {O k : Nat} {f : Nat → Value} {a b : Int} (h : Row8 w O f) : Row8 ((w.setCell ⟨O, k * 2, none⟩ (.int .i64 a)).setCell ⟨O, k * 2 + 1, none⟩ (.int .i64 b)) O (put2 f k a b) := (World.rowIs.set h _ _).set _ _
theorem put2_lo (f : Nat → Value) (k : Nat) (a b : Int) : put2 f k a b (k * 2) = .int .i64 a := by unfold put2; rw [if_neg (by omega), if_pos rfl]
theorem put2_hi (f : Nat → Value) (k : Nat) (a b : Int) : put2 f k a b (k * 2 + 1) = .int .i64 b := by unfold put2; rw [if_pos rfl]
def DoneTo (b : Bx) (f : Nat → Value) (k : Nat) : Prop := ∀ j, j < k → f (j * 2) = .int .i64 (bLo b j) ∧ f (j * 2 + 1) = .int .i64 (bHi b j)
theorem DoneTo.next {b : Bx} {f : Nat → Value} {k : Nat} (h : DoneTo b f k) : DoneTo b (put2 f k (bLo b k) (bHi b k)) (k + 1) := by
 intro j hj
 by_cases e : j = k
 ·subst e; exact ⟨put2_lo _ _ _ _, put2_hi _ _ _ _⟩
 ·have := h j (by omega)
  unfold put2
  rw [if_neg (by omega), if_neg (by omega), if_neg (by omega), if_neg (by omega)]
  exact this
end Go.Proofs.Ytifffonoipapgaa
