import Derived.Shelf.Spec.SlicesInsertGrow
import Derived.Lib.OwnBridge
import Derived.Shelf.Slices.In.SortAlone
import Derived.Shelf.Slices.In.SortNone
import Derived.Sort.OwnSortedInts
import Derived.Test.YtokafjkinkafiaaGreatVAA
import Derived.Test.YtokafjkinkafiaaGreatVAB
import Derived.Test.YtokafjkinkafiaaGreatVAD
import Derived.Test.YtokafjkinkafiaaGreatVAG
set_option linter.unusedSimpArgs false
set_option linter.unusedVariables false
namespace Go.Proofs.YtokafjkinkafiaaGreat
open Go.RowKit
open Go.RowKit Go.Shelf
theorem OwnInts.mono {w : World} {B B' : Nat} {v : Value} {xs : List Int} (h : OwnInts w B v xs) (hb : B' ≤ B) : OwnInts w B' v xs := by
 obtain ⟨hl, h | ⟨g, cap, cur, e, hB, hg, r⟩⟩ := h
 ·exact ⟨hl, .inl h⟩
 ·exact ⟨hl, .inr ⟨g, cap, cur, e, Nat.le_trans hb hB, hg, r⟩⟩
theorem ints_one (xs : List Int) : ∀ u ∈ xs.map (Value.int .i64), u.oneCell' = true := by
 intro u hu
 obtain ⟨x, _, rfl⟩ := List.mem_map.1 hu
 rfl
theorem holds_setCells (b : Nat) (t : TypeId) : ∀ (vs : List Value) (o : Nat) (w : World) (cs : List Value), Holds w b t cs.toArray → o + vs.length ≤ cs.length →
  Holds (w.setCells b o vs) b t (cs.take o ++ vs ++ cs.drop (o + vs.length)).toArray := by
 intro vs
 induction vs with
 | nil => intro o w cs h _; rw [List.append_nil, List.length_nil, Nat.add_zero, List.take_append_drop]; exact h
 | cons v vs ih =>
  intro o w cs h ho
  rw [List.length_cons] at ho
  rw [World.setCells]
  have := ih (o + 1) _ (cs.set o v) (h.setL o v) (by rw [List.length_set]; omega)
  have e : (cs.set o v).take (o + 1) ++ vs ++ (cs.set o v).drop (o + 1 + vs.length) = cs.take o ++ (v :: vs) ++ cs.drop (o + (v :: vs).length) := by
   rw [List.length_cons, List.drop_set_of_lt (by omega), show o + (vs.length + 1) = o + 1 + vs.length from by omega]
   have : (cs.set o v).take (o + 1) = cs.take o ++ [v] := by
    rw [List.take_add_one, List.take_set_of_le (Nat.le_refl o), List.getElem?_set_self (by omega)]
    rfl
   rw [this, List.append_assoc, List.append_assoc, List.append_assoc]
   rfl
  rw [e] at this
  exact this
theorem below_cells {B b : Nat} {a : World} (hb : B ≤ b) : ∀ (vs : List Value) (o : Nat) (w : World), Below B a w → Below B a (w.setCells b o vs) := by
 intro vs
 induction vs with
 | nil => intro o w h; exact h
 | cons v vs ih => intro o w h; exact ih _ _ (h.setCell hb v)
def insRen : Ren where
 f k := if k = 21 then 37 else if k = 27 then 55 else if k = 28 then 56 else if k = 35 then 86 else if k = 39 then 102 else 37
 t k := if k = 0 then 0 else if k = 3 then 3 else if k = 4 then 4 else 43
 g k := k
theorem insLays : Lays2.n21 Tryz.prog insRen := by
 constructor <;> first | kernel_rfl | (intro w; kernel_rfl)
theorem take_map_drop {r : Nat} {x : Int} {xs : List Int} : (xs.map (Value.int .i64)).take r ++ [Value.int .i64 x] ++ (xs.map (Value.int .i64)).drop r = (xs.take r ++ x :: xs.drop r).map (Value.int .i64) := by
 simp
theorem own_ins {w : World} {B g cap : Nat} {xs : List Int} {r : Nat} {x : Int} {cs : List Value} (hr : r ≤ xs.length) (hB : B ≤ g) (hg : Holds w g 3 cs.toArray) (hc : xs.length + 1 ≤ cap) (hm : cap ≤ maxLen) (hs : cs.length = cap)
  (hcs : cs.take (xs.length + 1) = (xs.map (Value.int .i64)).take r ++ [Value.int .i64 x] ++ (xs.map (Value.int .i64)).drop r) : OwnInts w B (.slice (some ⟨g, 0, none⟩) (xs.length + 1) cap) (xs.take r ++ x :: xs.drop r) := by
 have hl : (xs.take r ++ x :: xs.drop r).length = xs.length + 1 := by rw [List.length_append, List.length_cons, List.length_take, List.length_drop]; omega
 unfold OwnInts
 rw [hl]
 refine ⟨by rw [List.length_map, hl, Nat.mul_one], .inr ⟨g, cap, cs.toArray, rfl, hB, hg, hc, hm, by simpa using hs, ?_⟩⟩
 rw [Nat.mul_one, ← take_map_drop]
 exact hcs
theorem shape_of {w : World} {b : Nat} {t : TypeId} {cs : Array Value} (h : Holds w b t cs) : w.shape? b = some (t, cs.size) := by
 unfold World.shape?
 rw [h]
theorem frozen_of {w : World} {b : Nat} {t : TypeId} {cs : Array Value} (h : Holds w b t cs) (k : Nat) : w.frozen? ⟨b, k, none⟩ = false := by
 have h' : w.heap[b]? = some (.cells cs t (0, 0)) := h
 simp [World.frozen?, h']
theorem cell_of {w : World} {b : Nat} {t : TypeId} {cs : Array Value} (h : Holds w b t cs) (k : Nat) : w.cell? ⟨b, k, none⟩ = cs[k]? := by
 have h' : w.heap[b]? = some (.cells cs t (0, 0)) := h
 simp [World.cell?, h']
theorem ren3 : insRen.t 3 = 3 := rfl
theorem zero_row (n : Nat) : Builtin.zeroCells (Value.int .i64 0).cells n = (List.replicate n (Value.int .i64 0)).toArray := by
 apply Array.toList_inj.1
 apply List.ext_getElem?
 intro j
 by_cases hj : j < n
 ·simp [Builtin.zeroCells, Value.cells, hj, Nat.mod_one]
 ·simp [Builtin.zeroCells, Value.cells, hj]
theorem alloc_grown (w : World) (o : Obj) (row : Option Nat) : w.grownBy (w.alloc o) row :=
 have h := (Below.refl w.heap.size w).alloc (Nat.le_refl _) o
 ⟨h.os, h.tape, h.output, h.size, fun k hk _ => h.block k hk⟩
theorem new_row {w : World} {B K : Nat} {xs : List Int} {r : Nat} {x : Int} (hB : B ≤ w.heap.size) (hr : r ≤ xs.length) (hc : xs.length + 1 ≤ K) (hm : K ≤ maxLen) (cs : List Value) (hs : cs.length = K)
  (hcs : cs.take (xs.length + 1) = (xs.map (Value.int .i64)).take r ++ [Value.int .i64 x] ++ (xs.map (Value.int .i64)).drop r) :
  OwnInts (w.drew.alloc (.cells cs.toArray 3)) B (.slice (some ⟨w.heap.size, 0, none⟩) (xs.length + 1) K) (xs.take r ++ x :: xs.drop r) ∧ ∀ row, w.grownBy (w.drew.alloc (.cells cs.toArray 3)) row := by
 refine ⟨own_ins hr hB (Holds.new w.drew 3 cs.toArray) hc hm hs hcs, fun row => ?_⟩
 have h := alloc_grown w.drew (.cells cs.toArray 3) row
 exact ⟨h.os, h.tape, h.output, h.size, h.block⟩
set_option maxHeartbeats 1000000 in
theorem Insert_own (B vb : Nat) (v : Value) (xs : List Int) (r : Nat) (x : Int) (w : World) (hB : B ≤ w.heap.size) (hv : OwnInts w B v xs) (hr : r ≤ xs.length) (hl : xs.length ≤ 1000) (hx : Holds w vb 3 #[Value.int .i64 x]) (hne : v.ownBlock ≠ some vb) :
  Calls Tryz.prog 37 #[v, .int .i64 r, .slice (some ⟨vb, 0, none⟩) 1 1] w fun e w' => ∃ v', e = .returned v' ∧ OwnInts w' B v' (xs.take r ++ x :: xs.drop r) ∧ w.grownBy w' v.ownBlock := by
 have hvs : ∀ (j : Nat) (u : Value), [Value.int .i64 x][j]? = some u → w.cell? ⟨vb, 0 + j, none⟩ = some u := fun j u hj => by
  rw [cell_of hx, Nat.zero_add]; simpa using hj
 have h1v : ∀ u ∈ [Value.int .i64 x], u.oneCell' = true := fun u hu => by rw [List.mem_singleton] at hu; subst hu; rfl
 have h1c : ∀ u ∈ xs.map (Value.int .i64), u.oneCell' = true := ints_one xs
 obtain ⟨hl1, ⟨rfl, h0⟩ | ⟨g, cap, cur, rfl, hg, hb, hn, hm, hsz, ht⟩⟩ := hv
 ·have e0 : xs = [] := List.eq_nil_of_length_eq_zero h0
  subst e0
  have er : r = 0 := by simpa using hr
  subst er
  have hc := Any2.slices_Insert_int_end_grow insLays none 0 0 vb 0 1 1 [] [Value.int .i64 x] w (by decide) (by decide) (by decide) (by decide) rfl rfl (fun _ => rfl) (fun a h => by cases h) hvs h1v
  simp only [ren3, zero_row] at hc
  refine hc.mono ?_
  rintro e w' ⟨rfl, rfl⟩
  obtain ⟨K, hK⟩ : ∃ z, z = grownCap w (0 + 1) 0 3 := ⟨_, rfl⟩
  have hcap := grownCap_ge w (0 + 1) 0 3
  have hcm := grownCap_le_maxLen w (0 + 1) 0 3 (by decide)
  rw [← hK] at hcap hcm ⊢
  have hn := new_row (w := w) (B := B) (xs := []) (r := 0) (x := x) hB (Nat.le_refl _) hcap hcm ([Value.int .i64 x] ++ List.replicate (K - (0 + 1)) (Value.int .i64 0)) (by simp; omega) (by simp)
  have e : (([] : List Value) ++ [Value.int .i64 x]).toArray ++ (List.replicate (K - (0 + 1)) (Value.int .i64 0)).toArray = ([Value.int .i64 x] ++ List.replicate (K - (0 + 1)) (Value.int .i64 0)).toArray := by simp
  rw [e]
  exact ⟨_, rfl, hn.1, hn.2 _⟩
 ·have hH : Holds w g 3 cur := hb
  have hgs : g < w.heap.size := (Array.getElem?_eq_some_iff.1 hb).1
  have hvb : vb ≠ g := fun e => hne (by rw [e]; rfl)
  have hcs : ∀ (j : Nat) (u : Value), (xs.map (Value.int .i64))[j]? = some u → w.cell? ⟨g, 0 + j, none⟩ = some u := fun j u hj => by
   have hjl : j < xs.length := by have := (List.getElem?_eq_some_iff.1 hj).1; simpa using this
   rw [← ht, List.getElem?_take, if_pos (by omega)] at hj
   rw [cell_of hH, Nat.zero_add]
   simpa using hj
  rw [Nat.mul_one] at hsz
  have hcl : cur.toList.length = cap := by simpa using hsz
  have htk : cur.toList.take xs.length = xs.map (Value.int .i64) := by rw [← ht, Nat.mul_one]
  have grown : ∀ (o o' : Nat) (vs vs' : List Value), w.grownBy ((w.drew.setCells g o vs).setCells g o' vs') (some g) := fun o o' vs vs' => by
   have hbw := below_cells (B := 0) (b := g) (Nat.zero_le _) vs' o' _ (below_cells (B := 0) (b := g) (Nat.zero_le _) vs o _ ((Below.refl 0 w).drew))
   refine ⟨hbw.os, hbw.tape, hbw.output, hbw.size, fun k hk hkg => ?_⟩
   have out : ∀ (vs : List Value) (o : Nat) (u : World), (u.setCells g o vs).heap[k]? = u.heap[k]? := by
    intro vs
    induction vs with
    | nil => intro o u; rfl
    | cons a vs ih => intro o u; rw [World.setCells, ih]; exact Below.heap_setCell u ⟨g, o, none⟩ a k (fun e => hkg (by rw [e]))
   rw [out, out]
   rfl
  by_cases hroom : xs.length + 1 ≤ cap
  ·have hsp : ∀ j, j < xs.length + 1 → (w.cell? ⟨g, 0 + j, none⟩).isSome = true := fun j hj => by
    rw [cell_of hH, Nat.zero_add, Array.getElem?_eq_getElem (by omega), Option.isSome_some]
   by_cases hlt : r < xs.length
   ·refine (Any2.slices_Insert_int_shift insLays g 0 xs.length cap r vb 0 1 1 (xs.map (Value.int .i64)) [Value.int .i64 x] w hlt (by decide) hroom (by unfold maxLen at hm; omega) hvb (by simp) rfl hcs hsp (fun j _ => frozen_of hH _) hvs h1c h1v _ _ _ _ (shape_of hx) (shape_of hH) (by omega) (frozen_of hx _) (frozen_of hx _)).mono ?_
    rintro e w' ⟨rfl, rfl⟩
    refine ⟨_, rfl, ?_, grown _ _ _ _⟩
    have hL1 : Holds w.drew g 3 cur.toList.toArray := by rw [Array.toArray_toList]; exact hH
    have hL2 := holds_setCells g 3 ((xs.map (Value.int .i64)).drop r) (0 + (r + 1)) w.drew cur.toList hL1 (by rw [List.length_drop, List.length_map]; omega)
    have hL3 := holds_setCells g 3 [Value.int .i64 x] (0 + r) _ _ hL2 (by simp; omega)
    refine own_ins hr hg hL3 hroom hm (by simp; omega) ?_
    have ha : (cur.toList.take (0 + (r + 1)) ++ (xs.map (Value.int .i64)).drop r ++ cur.toList.drop (0 + (r + 1) + ((xs.map (Value.int .i64)).drop r).length)).take (0 + r) = (xs.map (Value.int .i64)).take r := by
     rw [Nat.zero_add, Nat.zero_add, List.append_assoc, List.take_append_of_le_length (by rw [List.length_take]; omega), List.take_take, Nat.min_eq_left (by omega), ← htk, List.take_take, Nat.min_eq_left hr]
    have hb2 : (cur.toList.take (0 + (r + 1)) ++ (xs.map (Value.int .i64)).drop r ++ cur.toList.drop (0 + (r + 1) + ((xs.map (Value.int .i64)).drop r).length)).drop (0 + r + [Value.int .i64 x].length) = (xs.map (Value.int .i64)).drop r ++ cur.toList.drop (xs.length + 1) := by
     rw [Nat.zero_add, Nat.zero_add, List.length_singleton, List.append_assoc, List.drop_append_of_le_length (by rw [List.length_take]; omega), List.drop_of_length_le (by rw [List.length_take]; omega), List.nil_append, List.length_drop, List.length_map, show r + 1 + (xs.length - r) = xs.length + 1 from by omega]
    rw [ha, hb2, ← List.append_assoc]
    exact List.take_left' (by simp; omega)
   ·have er : r = xs.length := by omega
    subst er
    refine (Any2.slices_Insert_int_end_room insLays g 0 xs.length cap vb 0 1 1 [Value.int .i64 x] w (by decide) hroom (by unfold maxLen at hm; omega) rfl (fun j hj => by rw [Nat.add_assoc]; exact hsp _ (by omega)) (fun j _ => frozen_of hH _) hvs h1v).mono ?_
    rintro e w' ⟨rfl, rfl⟩
    refine ⟨_, rfl, ?_, ?_⟩
    ·have hL1 : Holds w g 3 cur.toList.toArray := by rw [Array.toArray_toList]; exact hH
     have hL2 := holds_setCells g 3 [Value.int .i64 x] (0 + xs.length) w cur.toList hL1 (by simp; omega)
     refine own_ins (Nat.le_refl _) hg hL2 hroom hm (by simp; omega) ?_
     rw [Nat.zero_add, htk, List.take_left' (by simp), List.take_of_length_le (by simp), List.drop_of_length_le (by simp), List.append_nil]
    ·have hbw := below_cells (B := 0) (b := g) (Nat.zero_le _) [Value.int .i64 x] (0 + xs.length) _ (Below.refl 0 w)
     refine ⟨hbw.os, hbw.tape, hbw.output, hbw.size, fun k hk hkg => ?_⟩
     exact Below.heap_setCell w ⟨g, 0 + xs.length, none⟩ (Value.int .i64 x) k (fun e => hkg (by rw [e]; rfl))
  ·by_cases hlt : r < xs.length
   ·have hc := Any2.slices_Insert_int_grow insLays g 0 xs.length cap r vb 0 1 1 (xs.map (Value.int .i64)) [Value.int .i64 x] w hlt (by decide) hn (by omega) (by omega) (by simp) rfl hcs hvs h1c h1v
    simp only [ren3, zero_row] at hc
    refine hc.mono ?_
    rintro e w' ⟨rfl, rfl⟩
    have hcap := grownCap_ge w (xs.length + 1) cap 3
    have hcm := grownCap_le_maxLen w (xs.length + 1) cap 3 (by unfold maxLen; omega)
    obtain ⟨K, hK⟩ : ∃ z, z = grownCap w (xs.length + 1) cap 3 := ⟨_, rfl⟩
    rw [← hK] at hcap hcm ⊢
    have e0 : ((xs.map (Value.int .i64)).take r).toArray ++ (List.replicate (xs.length + 1 - r) (Value.int .i64 0)).toArray ++ (List.replicate (K - (xs.length + 1)) (Value.int .i64 0)).toArray = ((xs.map (Value.int .i64)).take r ++ List.replicate (xs.length + 1 - r) (Value.int .i64 0) ++ List.replicate (K - (xs.length + 1)) (Value.int .i64 0)).toArray := by
     simp
    rw [e0]
    refine ⟨_, rfl, ?_, ?_⟩
    ·have hL0 := Holds.new w 3 ((xs.map (Value.int .i64)).take r ++ List.replicate (xs.length + 1 - r) (Value.int .i64 0) ++ List.replicate (K - (xs.length + 1)) (Value.int .i64 0)).toArray
     have hL1 := holds_setCells w.heap.size 3 [Value.int .i64 x] r _ _ hL0.drew (by simp; omega)
     have hL2 := holds_setCells w.heap.size 3 ((xs.map (Value.int .i64)).drop r) (r + 1) _ _ hL1.drew (by simp; omega)
     refine own_ins hr hB hL2 hcap hcm (by simp; omega) ?_
     have hA : ((xs.map (Value.int .i64)).take r).length = r := by rw [List.length_take, List.length_map]; omega
     have hD : ((xs.map (Value.int .i64)).drop r).length = xs.length - r := by rw [List.length_drop, List.length_map]
     generalize (xs.map (Value.int .i64)).take r = A at *
     generalize (xs.map (Value.int .i64)).drop r = D at *
     have e1 : (A ++ List.replicate (xs.length + 1 - r) (Value.int .i64 0) ++ List.replicate (K - (xs.length + 1)) (Value.int .i64 0)).take r = A := by
      rw [List.append_assoc]; exact List.take_left' hA
     rw [e1]
     have e2 : (A ++ [Value.int .i64 x] ++ (A ++ List.replicate (xs.length + 1 - r) (Value.int .i64 0) ++ List.replicate (K - (xs.length + 1)) (Value.int .i64 0)).drop (r + [Value.int .i64 x].length)).take (r + 1) = A ++ [Value.int .i64 x] := List.take_left' (by simp [hA])
     rw [e2]
     exact List.take_left' (by simp [hA, hD]; omega)
    ·have hbw := below_cells (B := 0) (b := w.heap.size) (Nat.zero_le _) ((xs.map (Value.int .i64)).drop r) (r + 1) _ ((below_cells (B := 0) (b := w.heap.size) (Nat.zero_le _) [Value.int .i64 x] r _ (((Below.refl 0 w).alloc (Nat.zero_le _) (.cells ((xs.map (Value.int .i64)).take r ++ List.replicate (xs.length + 1 - r) (Value.int .i64 0) ++ List.replicate (K - (xs.length + 1)) (Value.int .i64 0)).toArray 3)).drew)).drew)
     have hbb := below_cells (B := w.heap.size) (b := w.heap.size) (Nat.le_refl _) ((xs.map (Value.int .i64)).drop r) (r + 1) _ ((below_cells (B := w.heap.size) (b := w.heap.size) (Nat.le_refl _) [Value.int .i64 x] r _ (((Below.refl w.heap.size w).alloc (Nat.le_refl _) (.cells ((xs.map (Value.int .i64)).take r ++ List.replicate (xs.length + 1 - r) (Value.int .i64 0) ++ List.replicate (K - (xs.length + 1)) (Value.int .i64 0)).toArray 3)).drew)).drew)
     exact ⟨hbw.os, hbw.tape, hbw.output, hbw.size, fun k hk _ => hbb.block k hk⟩
   ·have er : r = xs.length := by omega
    subst er
    have hc := Any2.slices_Insert_int_end_grow insLays (some ⟨g, 0, none⟩) xs.length cap vb 0 1 1 (xs.map (Value.int .i64)) [Value.int .i64 x] w (by decide) hn (by omega) (by omega) (by simp) rfl (fun h => by cases h) (fun a ha j u hj => by cases ha; rw [Addr.add_mid]; exact hcs j u hj) hvs h1v
    simp only [ren3, zero_row] at hc
    refine hc.mono ?_
    rintro e w' ⟨rfl, rfl⟩
    have hcap := grownCap_ge w (xs.length + 1) cap 3
    have hcm := grownCap_le_maxLen w (xs.length + 1) cap 3 (by unfold maxLen; omega)
    obtain ⟨K, hK⟩ : ∃ z, z = grownCap w (xs.length + 1) cap 3 := ⟨_, rfl⟩
    rw [← hK] at hcap hcm ⊢
    have hn := new_row (w := w) (B := B) (xs := xs) (r := xs.length) (x := x) hB (Nat.le_refl _) hcap hcm (xs.map (Value.int .i64) ++ [Value.int .i64 x] ++ List.replicate (K - (xs.length + 1)) (Value.int .i64 0)) (by simp; omega) (by rw [List.take_left' (by simp), List.take_of_length_le (by simp), List.drop_of_length_le (by simp), List.append_nil])
    have e : (xs.map (Value.int .i64) ++ [Value.int .i64 x]).toArray ++ (List.replicate (K - (xs.length + 1)) (Value.int .i64 0)).toArray = (xs.map (Value.int .i64) ++ [Value.int .i64 x] ++ List.replicate (K - (xs.length + 1)) (Value.int .i64 0)).toArray := by simp
    rw [e]
    exact ⟨_, rfl, hn.1, hn.2 _⟩
structure Shuffled (n : Nat) (xs : List Int) : Prop where
 len : xs.length = n
 nodup : xs.Nodup
 ran : ∀ x ∈ xs, 0 ≤ x ∧ x < (n : Int)
theorem Shuffled.next {k r : Nat} {xs : List Int} (h : Shuffled k xs) (hr : r ≤ k) : Shuffled (k + 1) (xs.take r ++ (k : Int) :: xs.drop r) := by
 obtain ⟨h1, h2, h3⟩ := h
 have hm : ∀ x, x ∈ xs.take r ++ (k : Int) :: xs.drop r ↔ x = (k : Int) ∨ x ∈ xs := by
  intro x
  have : x ∈ xs ↔ x ∈ xs.take r ∨ x ∈ xs.drop r := by rw [← List.mem_append, List.take_append_drop]
  rw [this, List.mem_append, List.mem_cons]
  constructor
  ·rintro (h | h | h)
   ·exact .inr (.inl h)
   ·exact .inl h
   ·exact .inr (.inr h)
  ·rintro (h | h | h)
   ·exact .inr (.inl h)
   ·exact .inl h
   ·exact .inr (.inr h)
 refine ⟨by rw [List.length_append, List.length_cons, List.length_take, List.length_drop]; omega, ?_, fun x hx => ?_⟩
 ·have hp : (xs.take r ++ (k : Int) :: xs.drop r).Perm ((k : Int) :: xs) := by
   have := List.perm_middle (a := (k : Int)) (l₁ := xs.take r) (l₂ := xs.drop r)
   rw [List.take_append_drop] at this
   exact this
  exact hp.nodup_iff.2 (List.nodup_cons.2 ⟨fun h => by have := h3 _ h; omega, h2⟩)
 ·rcases (hm x).1 hx with rfl | h
  ·omega
  ·have := h3 x h; omega
theorem Shuffled.all {n : Nat} : ∀ {xs : List Int}, Shuffled n xs → ∀ i : Nat, i < n → (i : Int) ∈ xs := by
 intro xs h i hi
 refine Classical.byContradiction fun hno => ?_
 have key : ∀ (m : Nat) (ys : List Int), ys.Nodup → (∀ y ∈ ys, 0 ≤ y ∧ y < (m : Int)) → ys.length ≤ m := by
  intro m
  induction m with
  | zero =>
   intro ys _ hy
   cases ys with
   | nil => exact Nat.le_refl _
   | cons y ys => have := hy y (by simp); omega
  | succ m ih =>
   intro ys hn hy
   have hf := ih (ys.filter (fun y => y != (m : Int))) (hn.filter _) (fun y hyy => by
    have a := hy y (List.mem_filter.1 hyy).1
    have b := (List.mem_filter.1 hyy).2
    have b : y ≠ (m : Int) := by simpa using b
    omega)
   have hc : ys.length ≤ (ys.filter (fun y => y != (m : Int))).length + 1 := by
    clear ih hf hy
    induction ys with
    | nil => simp
    | cons y ys ih2 =>
     obtain ⟨q1, q2⟩ := List.nodup_cons.1 hn
     by_cases he : y = (m : Int)
     ·subst he
      have : ys.filter (fun y => y != (m : Int)) = ys := List.filter_eq_self.2 (fun z hz => by
       have : z ≠ (m : Int) := fun e => q1 (e ▸ hz)
       simpa using this)
      rw [List.filter_cons, this]
      simp
     ·have := ih2 q2
      rw [List.filter_cons, if_pos (by simpa using he), List.length_cons, List.length_cons]
      omega
   omega
 -- with i put in the place of n less 1 (or where it stands) there would be too few numbers
 have hk := key (n - 1) (xs.map (fun y => if y = ((n - 1 : Nat) : Int) then (i : Int) else y)) ?_ ?_
 ·rw [List.length_map, h.len] at hk
  omega
 ·refine List.Pairwise.map _ ?_ (List.Pairwise.and_mem.1 h.nodup)
  rintro a b ⟨ha, hb, hab⟩
  split
  ·split
   ·exact fun _ => hab (by omega)
   ·exact fun e => hno (e ▸ hb)
  ·split
   ·exact fun e => hno (e ▸ ha)
   ·exact hab
 ·intro y hy
  obtain ⟨z, hz, rfl⟩ := List.mem_map.1 hy
  have := h.ran z hz
  split
  ·rename_i e
   have : (i : Int) ≠ ((n - 1 : Nat) : Int) := fun e' => hno (by rw [e', ← e]; exact hz)
   omega
  ·rename_i e
   omega
theorem OwnInts.other {w w' : World} {S : Nat} {v : Value} {xs : List Int} (h : OwnInts w (S + 1) v xs) (g : w.grownBy w' (some S)) : OwnInts w' (S + 1) v xs := by
 obtain ⟨hl, h | ⟨k, cap, cur, e, hB, hg, r⟩⟩ := h
 ·exact ⟨hl, .inl h⟩
 ·exact ⟨hl, .inr ⟨k, cap, cur, e, hB, (g.block k (Array.getElem?_eq_some_iff.1 hg).1 (fun e => by cases e; omega)).trans hg, r⟩⟩
theorem own_ne {w : World} {B : Nat} {v : Value} {xs : List Int} (h : OwnInts w B v xs) {k : Nat} (hk : w.heap.size ≤ k) : v.ownBlock ≠ some k := by
 obtain ⟨hl, ⟨rfl, _⟩ | ⟨g, cap, cur, rfl, hB, hg, r⟩⟩ := h
 ·intro e; cases e
 ·intro e
  have := (Array.getElem?_eq_some_iff.1 hg).1
  have e1 : some g = some k := e
  cases e1
  omega
theorem own_ge {w : World} {B : Nat} {v : Value} {xs : List Int} (h : OwnInts w B v xs) {k : Nat} (hk : v.ownBlock = some k) : B ≤ k := by
 obtain ⟨hl, ⟨rfl, _⟩ | ⟨g, cap, cur, rfl, hB, hg, r⟩⟩ := h
 ·cases hk
 ·cases hk; exact hB
open Go.RowKit Go.Shelf
theorem grow_too {W w w' : World} {mb : Nat} (h : W.grownBy w (some mb)) (hb : w.grownBy w' (some mb)) : W.grownBy w' (some mb) :=
 ⟨hb.os.trans h.os, hb.tape.trans h.tape, hb.output.trans h.output, Nat.le_trans h.size hb.size, fun k hk hne => (hb.block k (Nat.lt_of_lt_of_le hk h.size) hne).trans (h.block k hk hne)⟩
theorem grow_new {W w w' : World} {mb : Nat} {row : Option Nat} (h : W.grownBy w (some mb)) (hb : w.grownBy w' row) (hr : ∀ k, row = some k → W.heap.size ≤ k) : W.grownBy w' (some mb) :=
 ⟨hb.os.trans h.os, hb.tape.trans h.tape, hb.output.trans h.output, Nat.le_trans h.size hb.size, fun k hk hne => (hb.block k (Nat.lt_of_lt_of_le hk h.size) (fun e => by have := hr k e.symm; omega)).trans (h.block k hk hne)⟩
theorem OwnInts.otherB {w w' : World} {S B : Nat} {v : Value} {xs : List Int} (h : OwnInts w B v xs) (g : w.grownBy w' (some S)) (hS : S < B) : OwnInts w' B v xs := by
 obtain ⟨hl, h | ⟨k, cap, cur, e, hB, hg, r⟩⟩ := h
 ·exact ⟨hl, .inl h⟩
 ·exact ⟨hl, .inr ⟨k, cap, cur, e, hB, (g.block k (Array.getElem?_eq_some_iff.1 hg).1 (fun e => by cases e; omega)).trans hg, r⟩⟩
theorem grow_refl2 (W : World) (mb : Nat) : W.grownBy W (some mb) := ⟨rfl, rfl, rfl, Nat.le_refl _, fun _ _ _ => rfl⟩
def ShufOwn (w : World) (S : Nat) (A : Option Addr) (len cap n T : Nat) (v5 v8 : Value) (wr : World) : Prop :=
 ∃ (k tk : Nat) (m : Int) (xs : List Int), v8 = .int .i64 (k : Int) ∧ k ≤ n ∧ tk ≤ T + k ∧ Shuffled k xs ∧ OwnInts wr w.heap.size v5 xs ∧ Holds wr S 53 #[.slice A len cap, .int .i64 (tk : Int), .int .u32 m] ∧ w.grownBy wr (some S) ∧ S < wr.heap.size
set_option maxRecDepth 100000 in
set_option maxHeartbeats 4000000 in
theorem Shuffle_own (S : Nat) (A : Option Addr) (len cap T n : Nat) (m : Int) (w : World) (hS : Holds w S 53 #[.slice A len cap, .int .i64 (T : Int), .int .u32 m]) (hA : ∀ w', w.grownBy w' (some S) → BytesAt w' A len) (hn : len ≤ 9223372036854775807) (hT : T ≤ 1000) (hk : n ≤ 1000) :
  Calls Tryz.prog 16 #[.pointer (some ⟨S, 0, none⟩), .int .i64 (n : Int)] w fun e w' => ∃ v xs, e = .returned v ∧ Shuffled n xs ∧ OwnInts w' w.heap.size v xs ∧ w.grownBy w' (some S) ∧ ∃ (tk : Nat) (m' : Int), tk ≤ T + n ∧ Holds w' S 53 #[.slice A len cap, .int .i64 (tk : Int), .int .u32 m'] := by
 have HS := Lib.hid hS
 have HY := Lib.hid hA
 have hlt := hS.lt
 clear hS hA
 go_enter Tryz.func16, Tryz.ntmps16
 go_wp2_with fail
 go_loopw [5, 8] (fun v5 v8 wr => ShufOwn w S A len cap n T v5 v8 wr) (fun _ v8 _ => ((n : Int) - intOf v8).toNat)
 case atStart => exact ⟨0, T, m, [], rfl, Nat.zero_le _, by omega, ⟨rfl, .nil, fun x h => by cases h⟩, ⟨rfl, .inl ⟨rfl, rfl⟩⟩, HS.out, grow_refl2 _ _, hlt⟩
 case round =>
  obtain ⟨k, tk, mm, xs, rfl, hkn, htk, hsh, hown, hSr, hBr, hszr⟩ := hrel
  have HSH := Lib.hid hsh
  have HOW := Lib.hid hown
  have HSr := Lib.hid hSr
  have HBr := Lib.hid hBr
  have hlx := Lib.hid hsh.len
  clear hsh hown hSr hBr
  by_cases hlt2 : k < n
  ·have hki : (k : Int) < n := by omega
   go_wp2_with fail
   refine (Below_any S A len cap tk mm ((k : Int) + 1) _ HSr.out (HY.out _ HBr.out) hn (by omega) (by omega) (by omega)).mono ?_
   rintro e w2 ⟨r, m2, rfl, r0, r1, _, H2, g2⟩
   have hszw := HBr.out.size
   have HO2 := Lib.hid (HOW.out.otherB g2 hlt)
   have HS2 := Lib.hid H2
   have HB2 := Lib.hid (grow_too HBr.out g2)
   have hszw2 := HB2.out.size
   have hsz2 := H2.lt
   clear H2 g2
   obtain ⟨rn, rfl⟩ : ∃ rn : Nat, r = (rn : Int) := ⟨r.toNat, by omega⟩
   have hrn : rn ≤ k := by omega
   clear r0 r1
   go_wp2_with fail
   refine (Insert_own w.heap.size w2.heap.size _ xs rn (k : Int) _ (by simp; omega) (HO2.out.up ((Below.refl _ _).alloc (Nat.le_refl _) _)) (by have := hlx.out; omega) (by have := hlx.out; omega) (Holds.new _ _ _) (own_ne HO2.out (Nat.le_refl _))).mono ?_
   rintro e w3 ⟨v3, rfl, h3, g3⟩
   have HO3 := Lib.hid h3
   have HB3 := Lib.hid (grow_new (grow_new HB2.out (World.grownBy_alloc w2 (.cells #[.int .i64 (k : Int)] 3) none) (fun k hk => by cases hk)) g3 (fun k hk => own_ge HO2.out hk))
   have HS3 := Lib.hid ((g3.block S (by simp; omega) (fun e => by have := own_ge HO2.out e.symm; omega)).trans (Holds.alloc HS2.out (.cells #[.int .i64 (k : Int)] 3)))
   have hs3 : S < w3.heap.size := Nat.lt_of_lt_of_le (by simp; omega : S < (w2.alloc (.cells #[.int .i64 (k : Int)] 3)).heap.size) g3.size
   clear h3 g3
   go_wp2_with fail
   go_roundw
   case rel => exact ⟨k + 1, tk + 1, m2, _, by go_num, by omega, by omega, HSH.out.next hrn, HO3.out, HS3.out, HB3.out, hs3⟩
   case measure => first | (simp [intOf]; done) | (simp [intOf]; omega)
  ·have hkn2 : k = n := by omega
   subst hkn2
   go_wp2_with fail
   go_ret
   exact ⟨_, _, rfl, HSH.out, HOW.out, HBr.out, tk, mm, htk, HSr.out⟩
set_option maxRecDepth 100000 in
set_option maxHeartbeats 4000000 in
theorem Index_any (A : Option Addr) (c : Nat) (xs : List Int) (v : Int) (w : World) (hA : IntsAt w A xs) (hl : xs.length ≤ 1000) :
  Calls Tryz.prog 27 #[.slice A xs.length c, .int .i64 v] w fun e w' => ∃ r : Int, e = .returned (.int .i64 r) ∧ decide (0 ≤ r) = xs.contains v ∧ Below w.heap.size w w' := by
 have HA := Lib.hid hA
 obtain ⟨T, hT⟩ : ∃ z, xs.contains v = z := ⟨_, rfl⟩
 rw [hT]
 have HT := Lib.hid hT
 clear hA hT
 go_enter Tryz.func27, Tryz.ntmps27
 go_wp2_with fail
 go_loopw [8] (fun v8 wr => ∃ k : Nat, v8 = .int .i64 (k : Int) ∧ k ≤ xs.length ∧ Hid (xs.contains v = (xs.drop k).contains v) ∧ Below w.heap.size w wr) (fun v8 _ => xs.length - (intOf v8).toNat)
 case atStart => exact ⟨0, rfl, Nat.zero_le _, Lib.hid (by rw [List.drop_zero]), Below.refl _ _⟩
 case round =>
  obtain ⟨k, rfl, hk, hp, hB⟩ := hrel
  by_cases hlt : k < xs.length
  ·have hlt' : (k : Int) < xs.length := by omega
   obtain ⟨x, hx⟩ : ∃ z, xs[k]? = some z := ⟨_, List.getElem?_eq_getElem hlt⟩
   obtain ⟨B, o, rfl, hc⟩ := (HA.out.up hB) (by omega)
   have c0 := hc k x hx
   have lB := World.block_lt_of_cell? wr _ c0
   have HD : Hid (xs.drop k = x :: xs.drop (k + 1)) := Lib.hid (by obtain ⟨h, rfl⟩ := List.getElem?_eq_some_iff.1 hx; exact List.drop_eq_getElem_cons h)
   have HBR := Lib.hid hB
   clear hc hx hB
   by_cases he : x = v
   ·subst he
    go_wp2_with fail
    go_ret
    exact ⟨_, rfl, by rw [← HT.out, hp.out, HD.out, List.contains_cons, beq_self_eq_true, Bool.true_or]; exact decide_eq_true (by omega), HBR.out⟩
   ·have hne : (v == x) = false := by simpa using fun e => he e.symm
    have HN := Lib.hid hne
    go_wp2_with fail
    go_roundw
    case rel => exact ⟨k + 1, by go_num, hlt, Lib.hid (by rw [hp.out, HD.out, List.contains_cons, HN.out, Bool.false_or]), HBR.out⟩
    case measure => first | (simp [intOf]; done) | (simp [intOf]; omega)
  ·have hkl : k = xs.length := by omega
   have hlt' : ¬ (k : Int) < xs.length := by omega
   have HZ : Hid (xs.contains v = false) := Lib.hid (by rw [hp.out, hkl, List.drop_length]; rfl)
   go_wp2_with fail
   go_ret
   exact ⟨_, rfl, by rw [← HT.out, HZ.out]; rfl, hB⟩
set_option maxRecDepth 100000 in
set_option maxHeartbeats 4000000 in
theorem Contains_any (A : Option Addr) (c : Nat) (xs : List Int) (v : Int) (w : World) (hA : IntsAt w A xs) (hl : xs.length ≤ 1000) :
  Calls Tryz.prog 13 #[.slice A xs.length c, .int .i64 v] w fun e w' => e = .returned (.bool (xs.contains v)) ∧ Below w.heap.size w w' := by
 have HA := Lib.hid hA
 obtain ⟨T, hT⟩ : ∃ z, xs.contains v = z := ⟨_, rfl⟩
 rw [hT]
 have HT := Lib.hid hT
 clear hA hT
 go_enter Tryz.func13, Tryz.ntmps13
 go_wp2_with fail
 refine (Index_any A c xs v _ HA.out hl).mono ?_
 rintro e w2 ⟨r, rfl, hr, hb2⟩
 rw [HT.out] at hr
 have HB2 := Lib.hid hb2
 have HR := Lib.hid hr
 clear hb2
 cases T with
 | true =>
  have h0 : (0 : Int) ≤ r := of_decide_eq_true hr
  clear hr
  go_wp2_with fail
  go_ret
  exact ⟨rfl, HB2.out⟩
 | false =>
  have h0 : ¬ (0 : Int) ≤ r := of_decide_eq_false hr
  have h0d : decide ((0 : Int) ≤ r) = false := decide_eq_false h0
  clear hr
  go_wp2_with fail
  go_ret
  exact ⟨by first | rfl | (rw [h0d]), HB2.out⟩
def ClassesOf (bs : List Bn) (k : Nat) (cs : List Int) : Prop := cs.length = k ∧ ∀ (i : Nat) (x : Bn), i < k → bs[i]? = some x → ∃ z, cs[i]? = some z ∧ x.lo ≤ z ∧ z ≤ x.hi
theorem classes_step {bs : List Bn} {k : Nat} {cs : List Int} {x : Bn} {z : Int} (h : ClassesOf bs k cs) (hx : bs[k]? = some x) (h1 : x.lo ≤ z) (h2 : z ≤ x.hi) : ClassesOf bs (k + 1) (cs ++ [z]) := by
 refine ⟨by rw [List.length_append, h.1]; rfl, fun i y hi hy => ?_⟩
 by_cases e : i = k
 ·subst e
  rw [hx] at hy
  cases hy
  exact ⟨z, by rw [List.getElem?_append_right (by rw [h.1]; exact Nat.le_refl _), h.1, Nat.sub_self]; rfl, h1, h2⟩
 ·obtain ⟨c, hc, q1, q2⟩ := h.2 i y (by omega) hy
  exact ⟨c, by rw [List.getElem?_append_left (by rw [h.1]; omega)]; exact hc, q1, q2⟩
theorem own_snoc {w : World} {B : Nat} {v : Value} {l : List Int} {s : Int} (h : w.ownsRow B 3 1 v (l.length + 1) (l.map (Value.int .i64) ++ [.int .i64 s])) : OwnInts w B v (l ++ [s]) := by
 unfold OwnInts
 rw [List.length_append, List.map_append]
 simpa using h
set_option maxRecDepth 100000 in
set_option maxHeartbeats 40000000 in
theorem classes_any (b : Br) (A : Option Addr) (c : Nat) (bs : List Bn) (hE : barnErr b bs = 0) (S : Nat) (GA : Option Addr) (len cap T : Nat) (m : Int) (w : World) (hA : ∀ w', w.grownBy w' (some S) → BinsAt w' A bs) (hS : Holds w S 53 #[.slice GA len cap, .int .i64 (T : Int), .int .u32 m]) (hY : ∀ w', w.grownBy w' (some S) → BytesAt w' GA len) (hn : len ≤ 9223372036854775807) (hT : T ≤ 100000) :
  Calls Tryz.prog 12 #[.agg #[.int .i64 b.cool, .int .i64 b.gangs, .int .i64 b.r0, .int .i64 b.r1, .int .i64 b.r2, .int .i64 b.r3, .int .i64 b.r4, .int .i64 b.r5, .slice A bs.length c], .pointer (some ⟨S, 0, none⟩)] w fun e w' => ∃ v cs, e = .returned v ∧ ClassesOf bs bs.length cs ∧ OwnInts w' w.heap.size v cs ∧ w.grownBy w' (some S) := by
 have hn4 : bs.length ≤ 4 := by have := (barn_right hE).1; simp only [within, Bool.and_eq_true, decide_eq_true_eq] at this; omega
 have HA := Lib.hid hA
 have HY := Lib.hid hY
 have HS := Lib.hid hS
 have HE := Lib.hid hE
 have hSl := hS.lt
 obtain ⟨ti, hti, hti0, hti1, hti2⟩ := info_parts info_int
 clear hA hY hS hE
 go_enter Tryz.func12, Tryz.ntmps12
 go_wp2_with fail
 go_loopw [5, 12] (fun v5 v12 wr => ∃ (k tk : Nat) (G : Option Addr) (g : Nat) (cs : List Int) (mm : Int), v12 = .int .i64 (k : Int) ∧ k ≤ bs.length ∧ v5 = .slice G k g ∧ tk ≤ T + k ∧ Hid (ClassesOf bs k cs) ∧ Hid (OwnInts wr w.heap.size (.slice G k g) cs) ∧ Hid (Holds wr S 53 #[.slice GA len cap, .int .i64 (tk : Int), .int .u32 mm]) ∧ Hid (w.grownBy wr (some S))) (fun _ v12 _ => bs.length - (intOf v12).toNat)
 case atStart => exact ⟨0, T, none, 0, [], m, rfl, Nat.zero_le _, rfl, by omega, Lib.hid ⟨rfl, fun i x h => by omega⟩, Lib.hid ⟨rfl, .inl ⟨rfl, rfl⟩⟩, Lib.hid (by have hS9 := HS.out; exact zp0), Lib.hid (⟨rfl, rfl, rfl, by simp, fun k hk _ => Below.heap_alloc _ _ k hk⟩)⟩
 case round =>
  obtain ⟨k, tk, G, g, cs, mm, rfl, hk, rfl, htk, HC, HO, HSr, HG⟩ := hrel
  have hsw := HG.out.size
  by_cases hlt : k < bs.length
  ·have hlt' : (k : Int) < bs.length := by omega
   obtain ⟨x, hx⟩ : ∃ z, bs[k]? = some z := ⟨_, List.getElem?_eq_getElem hlt⟩
   have HX := Lib.hid hx
   obtain ⟨E0, oo, rfl, hcell⟩ := (HA.out _ HG.out) (by omega)
   have ke0 : wr.cell? ⟨E0, oo + k * 4, none⟩ = some (.int .i64 x.warm) := hcell k x hx 0 _ rfl
   have ke1 : wr.cell? ⟨E0, oo + k * 4 + 1, none⟩ = some (.int .i64 x.mark) := hcell k x hx 1 _ rfl
   have ke2 : wr.cell? ⟨E0, oo + k * 4 + 2, none⟩ = some (.int .i64 x.lo) := hcell k x hx 2 _ rfl
   have ke3 : wr.cell? ⟨E0, oo + k * 4 + 3, none⟩ = some (.int .i64 x.hi) := hcell k x hx 3 _ rfl
   have lE := World.block_lt_of_cell? wr _ ke0
   obtain ⟨l0, h0, hlo, hhi, hl6, hh6, -⟩ := good_bin HE.out hx
   have hle : x.lo ≤ x.hi := by have h := List.all_eq_true.1 (barn_right HE.out).2.2.2.2.2.2 x (List.mem_of_getElem? hx); simp only [Bn.inOrder, decide_eq_true_eq] at h; omega
   obtain ⟨xl, hxl⟩ : ∃ z, x.lo = z := ⟨_, rfl⟩
   obtain ⟨xh, hxh⟩ : ∃ z, x.hi = z := ⟨_, rfl⟩
   rw [hxl] at ke2 hlo hle
   rw [hxh] at ke3 hhi hle
   have HXL := Lib.hid hxl
   have HXH := Lib.hid hxh
   have hb0 : 0 ≤ xl ∧ xl ≤ 5 ∧ xh ≤ 5 := by omega
   clear hcell hx hxl hxh hlo hhi
   go_wp2_with fail
   refine (Among_any S GA len cap tk mm xl xh _ (Holds.alloc HSr.out _) (BytesAt.up (HY.out _ HG.out) ((Below.refl _ _).alloc (Nat.le_refl _) _)) hn (by omega) (by omega) (by omega) (by omega) (by omega)).mono ?_
   rintro e w2 ⟨r, m2, rfl, r0, r1, _, H2, g2⟩
   have HO2 : Hid (OwnInts w2 w.heap.size (.slice G k g) cs) := Lib.hid ((HO.out.up ((Below.refl _ _).alloc (Nat.le_refl _) _)).otherB g2 hSl)
   have HS2 := Lib.hid H2
   have HG2 : Hid (w.grownBy w2 (some S)) := Lib.hid (grow_too (grow_new HG.out (World.grownBy_alloc wr _ none) (fun k hk => by cases hk)) g2)
   have hs2 := HG2.out.size
   have hSl2 := H2.lt
   have hcl : cs.length = k := HC.out.1
   have HCL := Lib.hid hcl
   have hr1 : r ≤ xh := by omega
   clear H2 g2 hcl r1 ke0 ke1 ke2 ke3 lE
   go_wp2_with (at_builtin; (refine wpList_append_own _ rfl _ _ 43 rfl w.heap.size 3 ti _ 1 8 und_ints hti hti0 hti1 hti2 rfl (by decide) _ _ _ rfl (OwnInts.up HO2.out zg) ⟨_, 0, none⟩ 1 1 [.int .i64 r] rfl rfl (holds_news (Holds.new' _ _ (by simp))) (by intro v hv; simp only [List.mem_cons, List.not_mem_nil, or_false] at hv; subst hv; rfl) (by rw [HCL.out]; unfold maxLen; omega) (by rw [HCL.out]; omega) (by simp; omega) ?_; intro v5 w5 hown5 hgrow5 _; have ho5 : OwnInts w5 w.heap.size v5 (cs ++ [r]) := own_snoc hown5; obtain ⟨G5, g5, rfl, -, -, -⟩ := rowq_val ho5; rw [List.length_append, HCL.out] at ho5 ⊢; have HO5 := Lib.hid ho5; have HG5 := Lib.hid hgrow5; clear hown5 hgrow5 ho5))
   have hal : Below w2.heap.size w2 (w2.alloc (.cells #[.int .i64 r] 3)) := (Below.refl _ _).alloc (Nat.le_refl _) _
   have hob : ∀ kk, _ = some kk → w.heap.size ≤ kk := fun kk hk => own_ge (OwnInts.up HO2.out hal) hk
   go_roundw
   case rel => exact ⟨k + 1, tk + 1, G5, g5, _, m2, by go_num, hlt, rfl, by omega, Lib.hid (classes_step HC.out HX.out (by rw [HXL.out]; exact r0) (by rw [HXH.out]; exact hr1)), HO5, Lib.hid (Holds.row (HS2.out.alloc _) HG5.out (fun kk hk => by have := hob kk hk; omega)), Lib.hid (grow_new (grow_new HG2.out (World.grownBy_alloc w2 _ none) (fun k hk => by cases hk)) HG5.out hob)⟩
   case measure => first | (simp [intOf]; done) | (simp [intOf]; omega)
  ·have hlt' : ¬ (k : Int) < bs.length := by omega
   have HKE : Hid (k = bs.length) := Lib.hid (by omega)
   go_wp2_with fail
   go_ret
   have hcz : ClassesOf bs bs.length cs := by have h := HC.out; rw [HKE.out] at h; exact h
   first | exact ⟨_, cs, rfl, hcz, HO.out, HG.out⟩ | exact ⟨_, rfl, cs, hcz, HO.out, HG.out⟩
open Go.RowKit Go.Shelf
def sortRen : Ren where
 f k := if k = 189 then 18 else if k = 257 then 38 else if k = 125 then 39 else if k = 128 then 66 else if k = 129 then 67 else if k = 215 then 92 else if k = 216 then 63 else if k = 294 then 57 else if k = 295 then 58 else if k = 296 then 59 else if k = 297 then 60 else if k = 298 then 61 else if k = 299 then 62 else if k = 300 then 64 else if k = 301 then 65 else if k = 328 then 87 else if k = 329 then 88 else if k = 330 then 89 else if k = 331 then 90 else if k = 332 then 91 else 103
 t k := if k = 0 then 0 else if k = 3 then 3 else if k = 4 then 4 else if k = 5 then 5 else if k = 9 then 9 else if k = 28 then 43 else if k = 46 then 78 else if k = 51 then 51 else if k = 53 then 111 else if k = 131 then 107 else if k = 182 then 101 else if k = 183 then 102 else if k = 218 then 137 else if k = 222 then 141 else if k = 228 then 151 else 152
 g k := k
theorem sortLays : Lays.n189 Tryz.prog sortRen := by
 constructor <;> first | kernel_rfl | (intro w; kernel_rfl)
theorem calls_list {L : List Nat} {n : Nat} {P : Program} {f : FuncId} {args : Array Value} {w : World} {R : Ending → World → Prop} (h : ∀ D, CallsIn (Fence.list L (some D)) n P f args w R) : Calls P f args w R :=
 fun cs => by
  obtain ⟨e, w', fr, r, s, x⟩ := (h (cs.length + 1 + n)).2 cs (by simp [Fence.room, Fence.list])
  exact ⟨e, w', fr, r, s.comes, x⟩
theorem sort_facts (xs : List Int) : ∃ ys : List Int, ys = xs.mergeSort (fun x y => decide (x ≤ y)) ∧ ys.Perm xs ∧ ys.Pairwise (fun a b => a ≤ b) := by
 refine ⟨_, rfl, List.mergeSort_perm _ _, ?_⟩
 have h := List.pairwise_mergeSort (le := fun x y => decide (x ≤ y)) (fun a b c h1 h2 => by simp only [decide_eq_true_eq] at h1 h2 ⊢; omega) (fun a b => by simp only [Bool.or_eq_true, decide_eq_true_eq]; omega) xs
 exact h.imp (fun h => by simpa using h)
theorem Sort_own (B : Nat) (v : Value) (xs : List Int) (w : World) (hv : OwnInts w B v xs) (hl : xs.length ≤ 1000) :
  Calls Tryz.prog 18 #[v] w fun e w' => e = .returned (.tuple #[]) ∧ ∃ ys : List Int, ys.Perm xs ∧ ys.Pairwise (fun a b => a ≤ b) ∧ OwnInts w' B v ys ∧ w.grownBy w' v.ownBlock := by
 obtain ⟨ys, hys, hp, hs⟩ := sort_facts xs
 obtain ⟨hl1, ⟨rfl, h0⟩ | ⟨g, cap, cur, rfl, hg, hb, hn, hm, hsz, ht⟩⟩ := hv
 ·have e0 : xs = [] := List.eq_nil_of_length_eq_zero h0
  subst e0
  refine (calls_list (fun D => AnyS.slices_Sort_int_none_alone sortLays D none 0 w)).mono ?_
  rintro e w' ⟨rfl, rfl⟩
  exact ⟨rfl, [], .refl _, .nil, ⟨rfl, .inl ⟨rfl, rfl⟩⟩, rfl, rfl, rfl, Nat.le_refl _, fun _ _ _ => rfl⟩
 ·rw [Nat.mul_one] at ht
  refine (calls_list (fun D => AnyS.slices_Sort_int_alone sortLays D g 0 cap xs w (holds_of_blockI hb ht) (Array.getElem?_eq_some_iff.1 hb).1 (by omega))).mono ?_
  rintro e w' ⟨rfl, n, os, rfl⟩
  rw [← hys]
  have hyl : ys.length = xs.length := hp.length_eq
  have h := ownsRow_sortedI (n := n) (os := os) (ss := xs) (ts := ys) hyl hg hb hn hm hsz
  refine ⟨rfl, ys, hp, hs, ?_, grownBy_sortedI _⟩
  unfold OwnInts
  rw [hyl]
  exact h
theorem OwnInts.turnT {w w' : World} {B : Nat} {v : Value} {xs : List Int} {row : Option Nat} (h : OwnInts w B v xs) (hg : w.grownBy w' row) (hr : ∀ r, row = some r → ∃ cs u fr, w.heap[r]? = some (Obj.cells cs u fr) ∧ u ≠ 3) : OwnInts w' B v xs := by
 obtain ⟨hl, h | ⟨g, cap, cur, hv, hB, hgc, r⟩⟩ := h
 ·exact ⟨hl, .inl h⟩
 ·refine ⟨hl, .inr ⟨g, cap, cur, hv, hB, (hg.block g (Array.getElem?_eq_some_iff.1 hgc).1 (fun e => ?_)).trans hgc, r⟩⟩
  obtain ⟨cs, u, fr, hc, hu⟩ := hr g e.symm
  rw [hgc] at hc
  cases hc
  exact hu rfl
def PlanO (w : World) (B : Nat) (v : Value) (p : List (List Int)) : Prop :=
 ∃ vs : List Value, w.ownsRow B 43 1 v p.length vs ∧ ∀ (i : Nat) (l : List Int), p[i]? = some l → ∃ A c, vs[i]? = some (.slice A l.length c) ∧ OwnInts w B (.slice A l.length c) l
theorem PlanO.other {w w' : World} {B S : Nat} {v : Value} {p : List (List Int)} (h : PlanO w B v p) (hg : w.grownBy w' (some S)) (hS : S < B) : PlanO w' B v p := by
 obtain ⟨vs, ⟨hl, h1⟩, h2⟩ := h
 refine ⟨vs, ⟨hl, ?_⟩, fun i l hi => by obtain ⟨A, c, q1, q2⟩ := h2 i l hi; exact ⟨A, c, q1, q2.otherB hg hS⟩⟩
 rcases h1 with h1 | ⟨g, cap, cur, hv, hB, hgc, r⟩
 ·exact .inl h1
 ·exact .inr ⟨g, cap, cur, hv, hB, (hg.block g (Array.getElem?_eq_some_iff.1 hgc).1 (fun e => by cases e; omega)).trans hgc, r⟩
theorem PlanO.new {w w' : World} {B n : Nat} {v : Value} {p : List (List Int)} {row : Option Nat} (h : PlanO w B v p) (hg : w.grownBy w' row) (hr : ∀ k, row = some k → n ≤ k) (hn : w.heap.size ≤ n) : PlanO w' B v p := by
 obtain ⟨vs, ⟨hl, h1⟩, h2⟩ := h
 have keep : ∀ k o, w.heap[k]? = some o → w'.heap[k]? = some o := fun k o hk => by
  have hlt := (Array.getElem?_eq_some_iff.1 hk).1
  exact (hg.block k hlt (fun e => by have := hr k e.symm; omega)).trans hk
 refine ⟨vs, ⟨hl, ?_⟩, fun i l hi => ?_⟩
 ·rcases h1 with h1 | ⟨g, cap, cur, hv, hB, hgc, r⟩
  ·exact .inl h1
  ·exact .inr ⟨g, cap, cur, hv, hB, keep _ _ hgc, r⟩
 ·obtain ⟨A, c, q1, ⟨hl2, q2⟩⟩ := h2 i l hi
  refine ⟨A, c, q1, hl2, ?_⟩
  rcases q2 with q2 | ⟨g, cap, cur, hv, hB, hgc, r⟩
  ·exact .inl q2
  ·exact .inr ⟨g, cap, cur, hv, hB, keep _ _ hgc, r⟩
theorem PlanO.at_ {w : World} {B : Nat} {v : Value} {p : List (List Int)} (h : PlanO w B v p) : ∃ P c, v = .slice P p.length c ∧ PlanAt w P p := by
 obtain ⟨vs, hrow, h2⟩ := h
 obtain ⟨P, c, rfl, hc, hnil, hat⟩ := rowq_val hrow
 refine ⟨P, c, rfl, fun hn => ?_⟩
 obtain ⟨g, rfl, _, hcell⟩ := hat hn
 refine ⟨g, 0, rfl, fun d l hl => ?_⟩
 obtain ⟨A, c', q1, q2⟩ := h2 d l hl
 obtain ⟨A', c'', e, _, hn0, hi⟩ := q2.at_
 cases e
 exact ⟨A, c', by rw [Nat.zero_add]; exact hcell d _ q1, hi, hn0⟩
theorem PlanO.snoc {w w' : World} {B : Nat} {v v' : Value} {p : List (List Int)} {A : Option Addr} {c : Nat} {l : List Int} {vs : List Value} (h2 : ∀ (i : Nat) (l : List Int), p[i]? = some l → ∃ A c, vs[i]? = some (.slice A l.length c) ∧ OwnInts w B (.slice A l.length c) l) (hl : OwnInts w B (.slice A l.length c) l) (hn : vs.length = p.length)
  (hown : w'.ownsRow B 43 1 v' (p.length + 1) (vs ++ [.slice A l.length c])) (hg : w.grownBy w' v.ownBlock) (hr : ∀ r, v.ownBlock = some r → ∃ cs u fr, w.heap[r]? = some (Obj.cells cs u fr) ∧ u ≠ 3) : PlanO w' B v' (p ++ [l]) := by
 refine ⟨_, by rw [List.length_append]; exact hown, fun i l' hi => ?_⟩
 by_cases hlt : i < p.length
 ·rw [List.getElem?_append_left hlt] at hi
  obtain ⟨A', c', q1, q2⟩ := h2 i l' hi
  exact ⟨A', c', by rw [List.getElem?_append_left (by omega)]; exact q1, q2.turnT hg hr⟩
 ·rw [List.getElem?_append_right (by omega)] at hi
  have hi0 : i - p.length = 0 := by have := (List.getElem?_eq_some_iff.1 hi).1; simp at this; omega
  rw [hi0] at hi
  cases hi
  exact ⟨A, c, by rw [List.getElem?_append_right (by omega), hn, hi0]; rfl, hl.turnT hg hr⟩
theorem PlanO.both {w w' : World} {B S : Nat} {v : Value} {p : List (List Int)} (h : PlanO w B v p) (hg : w.grownBy w' (some S)) (hS : S < B) : PlanO w' B v p := h.other hg hS
theorem PlanO.mono {w : World} {B B' : Nat} {v : Value} {p : List (List Int)} (h : PlanO w B v p) (hb : B' ≤ B) : PlanO w B' v p := by
 obtain ⟨vs, h1, h2⟩ := h
 exact ⟨vs, rowq_mono h1 hb, fun i l hi => by obtain ⟨A, c, q1, q2⟩ := h2 i l hi; exact ⟨A, c, q1, q2.mono hb⟩⟩
theorem OwnInts.otherG {w w' : World} {S B : Nat} {v : Value} {xs : List Int} (h : OwnInts w B v xs) (g : w.grownBy w' (some S)) (hS : S < B) : OwnInts w' B v xs := h.otherB g hS
theorem row_type {w : World} {B n q : Nat} {e : TypeId} {v : Value} {xs : List Value} (h : w.ownsRow B e q v n xs) : ∀ r, v.ownBlock = some r → B ≤ r ∧ ∃ cs fr, w.heap[r]? = some (Obj.cells cs e fr) := by
 intro r e'
 obtain ⟨_, ⟨rfl, _⟩ | ⟨g, cap, cur, rfl, hB, hg, _⟩⟩ := h
 ·cases e'
 ·cases e'; exact ⟨hB, cur, _, hg⟩
def DayOk (n : Nat) (gangs : Int) (l : List Int) : Prop := incFrom l = true ∧ (∀ z ∈ l, within z 0 ((n : Int) - 1) = true) ∧ (l.length : Int) ≤ gangs
theorem day_ok {n : Nat} {gangs : Int} {xs l ys : List Int} (h : Shuffled n xs) (hl : l.Sublist xs) (hg : (l.length : Int) ≤ gangs) (hp : ys.Perm l) (hs : ys.Pairwise (fun a b => a ≤ b)) : DayOk n gangs ys := by
 have hnd : ys.Nodup := hp.nodup_iff.2 (hl.nodup h.nodup)
 refine ⟨inc_all fun j x y hx hy => ?_, fun z hz => ?_, by rw [hp.length_eq]; exact hg⟩
 ·obtain ⟨h1, rfl⟩ := List.getElem?_eq_some_iff.1 hx
  obtain ⟨h2, rfl⟩ := List.getElem?_eq_some_iff.1 hy
  have hle := List.pairwise_iff_getElem.1 hs j (j + 1) h1 h2 (by omega)
  have hne : ys[j] ≠ ys[j + 1] := List.pairwise_iff_getElem.1 hnd j (j + 1) h1 h2 (by omega)
  omega
 ·have := h.ran z (hl.subset (hp.mem_iff.1 hz))
  simp only [within, Bool.and_eq_true, decide_eq_true_eq]
  omega
theorem dayErr_of {n : Nat} {gangs : Int} {l : List Int} (h : DayOk n gangs l) : dayErr n gangs l = 0 := dayErr_ok (List.all_eq_true.2 h.2.1) h.1 (by have := h.2.2; omega)
set_option maxRecDepth 100000 in
set_option maxHeartbeats 40000000 in
theorem tried_any (b : Br) (A : Option Addr) (c : Nat) (bs : List Bn) (hE : barnErr b bs = 0) (S : Nat) (GA : Option Addr) (len cap T days : Nat) (m : Int) (w : World) (hS : Holds w S 53 #[.slice GA len cap, .int .i64 (T : Int), .int .u32 m]) (hY : ∀ w', w.grownBy w' (some S) → BytesAt w' GA len) (hn : len ≤ 9223372036854775807) (hT : T ≤ 500) (hd : days ≤ 20) :
  Calls Tryz.prog 6 #[.pointer (some ⟨S, 0, none⟩), .agg #[.int .i64 b.cool, .int .i64 b.gangs, .int .i64 b.r0, .int .i64 b.r1, .int .i64 b.r2, .int .i64 b.r3, .int .i64 b.r4, .int .i64 b.r5, .slice A bs.length c], .int .i64 (days : Int)] w fun e w' => ∃ v p, e = .returned v ∧ p.length = days ∧ (∀ l ∈ p, DayOk bs.length b.gangs l) ∧ PlanO w' w.heap.size v p ∧ w.grownBy w' (some S) ∧ ∃ (tk : Nat) (m' : Int), tk ≤ T + 8 * days ∧ Holds w' S 53 #[.slice GA len cap, .int .i64 (tk : Int), .int .u32 m'] := by
 have hgood := barn_right hE
 have hn4 : bs.length ≤ 4 := by have := hgood.1; simp only [within, Bool.and_eq_true, decide_eq_true_eq] at this; omega
 have hg0 : 0 ≤ b.gangs ∧ b.gangs ≤ 3 := by have := hgood.2.2.1; simpa only [within, Bool.and_eq_true, decide_eq_true_eq] using this
 obtain ⟨hg0, hg3⟩ := hg0
 have HS := Lib.hid hS
 have HY := Lib.hid hY
 have hSl := hS.lt
 obtain ⟨ti, hti, hti0, hti1, hti2⟩ := info_parts info_int
 obtain ⟨tr, htr, htr0, htr1, htr2⟩ := info_parts info_ints
 clear hgood hE hS hY
 obtain ⟨w0, hw0⟩ : ∃ z, z = w.alloc (.cells #[.int .i64 b.cool, .int .i64 b.gangs, .int .i64 b.r0, .int .i64 b.r1, .int .i64 b.r2, .int .i64 b.r3, .int .i64 b.r4, .int .i64 b.r5, .slice A bs.length c] 26) := ⟨_, rfl⟩
 have HG0 : Hid (w.grownBy w0 (some S)) := Lib.hid (by rw [hw0]; exact World.grownBy_alloc _ _ _)
 have HB0 : Hid (Holds w0 w.heap.size 26 #[.int .i64 b.cool, .int .i64 b.gangs, .int .i64 b.r0, .int .i64 b.r1, .int .i64 b.r2, .int .i64 b.r3, .int .i64 b.r4, .int .i64 b.r5, .slice A bs.length c]) := Lib.hid (by rw [hw0]; exact Holds.new _ _ _)
 have HS0 : Hid (Holds w0 S 53 #[.slice GA len cap, .int .i64 (T : Int), .int .u32 m]) := Lib.hid (by rw [hw0]; exact HS.out.alloc _)
 have hs0 : w0.heap.size = w.heap.size + 1 := by rw [hw0]; simp
 go_enter Tryz.func6, Tryz.ntmps6
 go_wp2_with fail
 rw [← hw0]
 clear hw0
 go_loopw [7, 12] (fun v7 v12 wr => ∃ (d tk : Nat) (G : Option Addr) (g : Nat) (p : List (List Int)) (mm : Int), v12 = .int .i64 (d : Int) ∧ d ≤ days ∧ v7 = .slice G d g ∧ tk ≤ T + 8 * d ∧ Hid (p.length = d) ∧ Hid (∀ l ∈ p, DayOk bs.length b.gangs l) ∧ Hid (PlanO wr w0.heap.size (.slice G d g) p) ∧ Hid (Holds wr S 53 #[.slice GA len cap, .int .i64 (tk : Int), .int .u32 mm]) ∧ Hid (w0.grownBy wr (some S))) (fun _ v12 _ => days - (intOf v12).toNat)
 case atStart => exact ⟨0, T, none, 0, [], m, rfl, Nat.zero_le _, rfl, by omega, Lib.hid rfl, Lib.hid (fun l h => by cases h), Lib.hid ⟨[], ⟨rfl, .inl ⟨rfl, rfl⟩⟩, fun i l h => by cases h⟩, HS0, Lib.hid (grow_refl2 _ _)⟩
 case round =>
  obtain ⟨d, tk, G, g, p, mm, rfl, hdd, rfl, htk, HPL, HDY, HPO, HSr, HGr⟩ := hrel
  have hsr := HGr.out.size
  by_cases hlt : d < days
  ·have hlt' : (d : Int) < days := by omega
   have HBr : Hid (Holds wr w.heap.size 26 #[.int .i64 b.cool, .int .i64 b.gangs, .int .i64 b.r0, .int .i64 b.r1, .int .i64 b.r2, .int .i64 b.r3, .int .i64 b.r4, .int .i64 b.r5, .slice A bs.length c]) := Lib.hid (HB0.out.grown HGr.out (by omega))
   have hbl := HBr.out.lt
   have kb8 : wr.cell? ⟨w.heap.size, 8, none⟩ = some (.slice A bs.length c) := HBr.out.cell 8
   go_wp2_with fail
   refine (Shuffle_own S GA len cap tk bs.length mm _ HSr.out (fun w' h => HY.out w' (grow_too HG0.out (grow_too HGr.out h))) hn (by omega) (by omega)).mono ?_
   rintro e ws ⟨v18, xs, rfl, hsh, hown, hg1, tk1, m1, htk1, hS1⟩
   have HSH := Lib.hid hsh
   obtain ⟨SA, sc, rfl, -, -, hiA⟩ := hown.at_
   have hxl : xs.length = bs.length := hsh.len
   have HXL := Lib.hid hxl
   have HSS := Lib.hid hown
   have HG1 := Lib.hid hg1
   have HS1 := Lib.hid hS1
   have hs1 := hg1.size
   clear hsh hown hg1 hS1 hiA hxl
   have HBs : Hid (Holds ws w.heap.size 26 #[.int .i64 b.cool, .int .i64 b.gangs, .int .i64 b.r0, .int .i64 b.r1, .int .i64 b.r2, .int .i64 b.r3, .int .i64 b.r4, .int .i64 b.r5, .slice A bs.length c]) := Lib.hid (HBr.out.grown HG1.out (by omega))
   have hln : xs.length ≤ 4 := by rw [HXL.out]; exact hn4
   go_wp2_with fail
   go_loopw [8, 20] (fun v8 v20 wz => ∃ (j tk2 : Nat) (H : Option Addr) (h : Nat) (l : List Int) (m2 : Int), v20 = .int .i64 (j : Int) ∧ j ≤ xs.length ∧ v8 = .slice H l.length h ∧ tk2 ≤ tk1 + j ∧ (l.length : Int) ≤ b.gangs ∧ Hid (l.Sublist (xs.take j)) ∧ Hid (OwnInts wz ws.heap.size (.slice H l.length h) l) ∧ Hid (Holds wz S 53 #[.slice GA len cap, .int .i64 (tk2 : Int), .int .u32 m2]) ∧ Hid (ws.grownBy wz (some S))) (fun _ v20 _ => xs.length - (intOf v20).toNat)
   case atStart => exact ⟨0, tk1, none, 0, [], m1, rfl, Nat.zero_le _, rfl, by omega, by simpa using hg0, Lib.hid (List.nil_sublist _), Lib.hid ⟨rfl, .inl ⟨rfl, rfl⟩⟩, HS1, Lib.hid (grow_refl2 _ _)⟩
   case round =>
    rename World => wz
    obtain ⟨j, tk2, H, h, l, m2, rfl, hj, rfl, htk2, hlg, HSB, HLO, HSz, HGz⟩ := hrel
    have hsz := HGz.out.size
    by_cases hjl : j < xs.length
    ·have hjl' : (j : Int) < xs.length := by omega
     obtain ⟨x, hx⟩ : ∃ z, xs[j]? = some z := ⟨_, List.getElem?_eq_getElem hjl⟩
     have HTK : Hid (xs.take (j + 1) = xs.take j ++ [x]) := Lib.hid (by rw [List.take_add_one, hx]; rfl)
     obtain ⟨SB1, sc1, eS1, -, -, hiS⟩ := (HSS.out.otherG HGz.out (by omega)).at_
     cases eS1
     obtain ⟨SB, so, eS, hat⟩ := hiS (by omega)
     cases eS
     have kx := hat j x hx
     have lx := World.block_lt_of_cell? wz _ kx
     have HBz : Hid (Holds wz w.heap.size 26 #[.int .i64 b.cool, .int .i64 b.gangs, .int .i64 b.r0, .int .i64 b.r1, .int .i64 b.r2, .int .i64 b.r3, .int .i64 b.r4, .int .i64 b.r5, .slice A bs.length c]) := Lib.hid (HBs.out.grown HGz.out (by omega))
     have kb1 : wz.cell? ⟨w.heap.size, 1, none⟩ = some (.int .i64 b.gangs) := HBz.out.cell 1
     have hbz := HBz.out.lt
     clear hat hx
     by_cases hgl : (l.length : Int) < b.gangs
     ·go_wp2_with fail
      refine (Rare_any S GA len cap tk2 m2 3 _ HSz.out (HY.out _ (grow_too HG0.out (grow_too HGr.out (grow_too HG1.out HGz.out)))) hn (by omega) (by decide) (by decide)).mono ?_
      rintro e w3 ⟨rare, m3, rfl, h3, g3⟩
      have HS3 := Lib.hid h3
      have HG3 : Hid (ws.grownBy w3 (some S)) := Lib.hid (grow_too HGz.out g3)
      have HL3 : Hid (OwnInts w3 ws.heap.size (.slice H l.length h) l) := Lib.hid (HLO.out.otherB g3 (by omega))
      have hs3 := HG3.out.size
      have hl4 : l.length ≤ 3 := by omega
      clear h3 g3 kx lx kb1
      cases rare with
      | true =>
       go_wp2_with fail
       go_roundw
       case rel => exact ⟨j + 1, tk2 + 1, H, h, l, m3, by go_num, by omega, rfl, by omega, hlg, Lib.hid (by rw [HTK.out]; exact List.Sublist.trans HSB.out (List.sublist_append_left _ _)), HL3, HS3, HG3⟩
       case measure => first | (simp [intOf]; done) | (simp [intOf]; omega)
      | false =>
       go_wp2_with (at_builtin; (refine wpList_append_own _ rfl _ _ 43 rfl ws.heap.size 3 ti _ 1 8 und_ints hti hti0 hti1 hti2 rfl (by decide) _ _ _ rfl (OwnInts.up HL3.out zg) ⟨_, 0, none⟩ 1 1 [.int .i64 x] rfl rfl (holds_news (Holds.new' _ _ (by simp))) (by intro v hv; simp only [List.mem_cons, List.not_mem_nil, or_false] at hv; subst hv; rfl) (by unfold maxLen; omega) (by omega) (by simp; omega) ?_; intro v5 w5 hown5 hgrow5 _; have ho5 : OwnInts w5 ws.heap.size v5 (l ++ [x]) := own_snoc hown5; obtain ⟨G5, g5, rfl, -, -, -⟩ := rowq_val ho5; have HO5 := Lib.hid ho5; have HG5 := Lib.hid hgrow5; clear hown5 hgrow5 ho5))
       have hal : Below w3.heap.size w3 (w3.alloc (.cells #[.int .i64 x] 3)) := (Below.refl _ _).alloc (Nat.le_refl _) _
       have hob : ∀ kk, _ = some kk → ws.heap.size ≤ kk := fun kk hk => own_ge (OwnInts.up HL3.out hal) hk
       go_roundw
       case rel => exact ⟨j + 1, tk2 + 1, G5, g5, l ++ [x], m3, by go_num, by omega, by simp, by omega, by rw [List.length_append]; simp only [List.length_cons, List.length_nil]; omega, Lib.hid (by rw [HTK.out]; exact HSB.out.append (List.Sublist.refl _)), HO5, Lib.hid (Holds.row (HS3.out.alloc _) HG5.out (fun kk hk => by have := hob kk hk; omega)), Lib.hid (grow_new (grow_new HG3.out (World.grownBy_alloc w3 _ none) (fun k hk => by cases hk)) HG5.out hob)⟩
       case measure => first | (simp [intOf]; done) | (simp [intOf]; omega)
     ·have hgl' : ¬ (l.length : Int) < b.gangs := hgl
      go_wp2_with fail
      go_roundw
      case rel => exact ⟨j + 1, tk2, H, h, l, m2, by go_num, by omega, rfl, by omega, hlg, Lib.hid (by rw [HTK.out]; exact List.Sublist.trans HSB.out (List.sublist_append_left _ _)), HLO, HSz, HGz⟩
      case measure => first | (simp [intOf]; done) | (simp [intOf]; omega)
    ·have hjl' : ¬ (j : Int) < xs.length := by omega
     have HSUB : Hid (l.Sublist xs) := Lib.hid (HSB.out.trans (List.take_sublist _ _))
     have hl4 : l.length ≤ 3 := by omega
     go_wp2_with fail
     refine (Sort_own ws.heap.size _ l _ HLO.out (by omega)).mono ?_
     rintro e w4 ⟨rfl, ys, hp4, hs4, ho4, hg4⟩
     have hyl : ys.length = l.length := hp4.length_eq
     have HDO : Hid (DayOk bs.length b.gangs ys) := Lib.hid (day_ok HSH.out HSUB.out hlg hp4 hs4)
     have HG4 : Hid (wr.grownBy w4 (some S)) := Lib.hid (grow_new (grow_too HG1.out HGz.out) hg4 (fun k hk => Nat.le_trans hs1 (own_ge HLO.out hk)))
     have HS4 := Lib.hid (Holds.row HSz.out hg4 (fun kk hk => by have := own_ge HLO.out hk; omega))
     have HP4 : Hid (PlanO w4 w0.heap.size (.slice G d g) p) := Lib.hid (HPO.out.both HG4.out (by omega))
     have HO4 : Hid (OwnInts w4 w0.heap.size (.slice H l.length h) ys) := Lib.hid (ho4.mono (by omega))
     have HW4 : Hid (w0.grownBy w4 (some S)) := Lib.hid (grow_too HGr.out HG4.out)
     have hs4' := HG4.out.size
     clear hp4 hs4 ho4 hg4
     obtain ⟨vs, hvs, hrows⟩ := HP4.out
     rw [HPL.out] at hvs
     have HVS := Lib.hid hvs
     have HRW := Lib.hid hrows
     have HVL : Hid (vs.length = d) := Lib.hid (by have := hvs.1; omega)
     clear hvs hrows
     go_wp2_with (at_builtin; (refine wpList_append_own _ rfl _ _ 30 rfl w0.heap.size 43 tr _ 1 24 und_rows htr htr0 htr1 htr2 rfl (by decide) _ _ _ rfl (rowq_up HVS.out zg) ⟨_, 0, none⟩ 1 1 [.slice H l.length h] rfl rfl (holds_news (Holds.new' _ _ (by simp))) (by intro v hv; simp only [List.mem_cons, List.not_mem_nil, or_false] at hv; subst hv; rfl) (by unfold maxLen; omega) (by omega) (by simp; omega) ?_; intro v6 w6 hown6 hgrow6 _; obtain ⟨G6, g6, rfl, -, -, -⟩ := rowq_val hown6; have HO6 := Lib.hid hown6; have HG6 := Lib.hid hgrow6; clear hown6 hgrow6))
     have hal : Below w4.heap.size w4 (w4.alloc (.cells #[.slice H l.length h] 43)) := (Below.refl _ _).alloc (Nat.le_refl _) _
     have hty := row_type (rowq_up HVS.out hal)
     have HPN : Hid (PlanO w6 w0.heap.size (.slice G6 (d + 1) g6) (p ++ [ys])) := Lib.hid (PlanO.snoc (fun i l' hi => by obtain ⟨A', c', q1, q2⟩ := HRW.out i l' hi; exact ⟨A', c', q1, q2.up hal⟩) (by rw [hyl]; exact HO4.out.up hal) (by rw [HVL.out, HPL.out]) (by rw [HPL.out, hyl]; exact HO6.out) HG6.out (fun r e => by obtain ⟨_, cs, fr, q⟩ := hty r e; exact ⟨cs, _, fr, q, by decide⟩))
     go_roundw
     case rel => exact ⟨d + 1, tk2, G6, g6, p ++ [ys], m2, by go_num, hlt, rfl, by omega, Lib.hid (by rw [List.length_append, HPL.out]; rfl), Lib.hid (fun l' hl' => by rcases List.mem_append.1 hl' with h1 | h1; exact HDY.out l' h1; rw [List.mem_singleton] at h1; subst h1; exact HDO.out), HPN, Lib.hid (Holds.row (HS4.out.alloc _) HG6.out (fun kk hk => by have := (hty kk hk).1; omega)), Lib.hid (grow_new (grow_new HW4.out (World.grownBy_alloc w4 _ none) (fun k hk => by cases hk)) HG6.out (fun kk hk => (hty kk hk).1))⟩
     case measure => first | (simp [intOf]; done) | (simp [intOf]; omega)
  ·have hlt' : ¬ (d : Int) < days := by omega
   have HDE : Hid (d = days) := Lib.hid (by omega)
   go_wp2_with fail
   go_ret
   have e1 : p.length = days := by rw [HPL.out, HDE.out]
   have e2 := HPO.out.mono (B' := w.heap.size) (by omega)
   have e3 := grow_too HG0.out HGr.out
   have e4 : tk ≤ T + 8 * days := by have := HDE.out; omega
   exact ⟨_, rfl, p, e1, HDY.out, e2, e3, tk, e4, mm, HSr.out⟩
end Go.Proofs.YtokafjkinkafiaaGreat
