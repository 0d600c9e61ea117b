import Derived.Shelf.Spec.SlicesInsertGrow
import Derived.Shelf.Slices.Delete
import Derived.Lib.OwnBridge
import Derived.Test.YtdpgfaikmahmpaaGAA
import Derived.Test.YtdpgfaikmahmpaaGAC
import Derived.Test.YtdpgfaikmahmpaaGAQ
import Derived.Test.YtdpgfaikmahmpaaGBK
import Derived.Test.YtdpgfaikmahmpaaGBR
import Derived.Test.YtdpgfaikmahmpaaGBS
set_option linter.unusedSimpArgs false
set_option linter.unusedVariables false
namespace Go.Proofs.Ytdpgfaikmahmpaa
open Go.RowKit
open Go.RowKit Go.Shelf
theorem holds_setCells (b : Nat) (t : TypeId) : ∀ (vs : List Value) (o : Nat) (w : World) (cs : List Value), Holds w b t cs.toArray → o + vs.length ≤ cs.length →
  Holds (w.setCells b o vs) b t (cs.take o ++ vs ++ cs.drop (o + vs.length)).toArray := by
 intro vs
 induction vs with
 | nil => intro o w cs h _; rw [List.append_nil, List.length_nil, Nat.add_zero, List.take_append_drop]; exact h
 | cons v vs ih =>
  intro o w cs h ho
  rw [List.length_cons] at ho
  rw [World.setCells]
  have := ih (o + 1) _ (cs.set o v) (h.setL o v) (by rw [List.length_set]; omega)
  have e : (cs.set o v).take (o + 1) ++ vs ++ (cs.set o v).drop (o + 1 + vs.length) = cs.take o ++ (v :: vs) ++ cs.drop (o + (v :: vs).length) := by
   rw [List.length_cons, List.drop_set_of_lt (by omega), show o + (vs.length + 1) = o + 1 + vs.length from by omega]
   have : (cs.set o v).take (o + 1) = cs.take o ++ [v] := by
    rw [List.take_add_one, List.take_set_of_le (Nat.le_refl o), List.getElem?_set_self (by omega)]
    rfl
   rw [this, List.append_assoc, List.append_assoc, List.append_assoc]
   rfl
  rw [e] at this
  exact this
theorem below_cells {B b : Nat} {a : World} (hb : B ≤ b) : ∀ (vs : List Value) (o : Nat) (w : World), Below B a w → Below B a (w.setCells b o vs) := by
 intro vs
 induction vs with
 | nil => intro o w h; exact h
 | cons v vs ih => intro o w h; exact ih _ _ (h.setCell hb v)
def insRen : Ren where
 f k := if k = 21 then 130 else if k = 27 then 143 else if k = 28 then 144 else if k = 35 then 149 else if k = 39 then 151 else 76
 t k := if k = 0 then 0 else if k = 3 then 3 else if k = 4 then 4 else 87
 g k := k
theorem insLays : Lays2.n21 Try.prog insRen := by
 constructor <;> first | kernel_rfl | (intro w; kernel_rfl)
theorem take_map_drop {r : Nat} {x : Int} {xs : List Int} : (xs.map (Value.int .i64)).take r ++ [Value.int .i64 x] ++ (xs.map (Value.int .i64)).drop r = (xs.take r ++ x :: xs.drop r).map (Value.int .i64) := by
 simp
theorem own_ins {w : World} {B g cap : Nat} {xs : List Int} {r : Nat} {x : Int} {cs : List Value} (hr : r ≤ xs.length) (hB : B ≤ g) (hg : Holds w g 3 cs.toArray) (hc : xs.length + 1 ≤ cap) (hm : cap ≤ maxLen) (hs : cs.length = cap)
  (hcs : cs.take (xs.length + 1) = (xs.map (Value.int .i64)).take r ++ [Value.int .i64 x] ++ (xs.map (Value.int .i64)).drop r) : OwnInts w B (.slice (some ⟨g, 0, none⟩) (xs.length + 1) cap) (xs.take r ++ x :: xs.drop r) := by
 have hl : (xs.take r ++ x :: xs.drop r).length = xs.length + 1 := by rw [List.length_append, List.length_cons, List.length_take, List.length_drop]; omega
 unfold OwnInts
 rw [hl]
 refine ⟨by rw [List.length_map, hl, Nat.mul_one], .inr ⟨g, cap, cs.toArray, rfl, hB, hg, hc, hm, by simpa using hs, ?_⟩⟩
 rw [Nat.mul_one, ← take_map_drop]
 exact hcs
theorem shape_of {w : World} {b : Nat} {t : TypeId} {cs : Array Value} (h : Holds w b t cs) : w.shape? b = some (t, cs.size) := by
 unfold World.shape?
 rw [h]
theorem frozen_of {w : World} {b : Nat} {t : TypeId} {cs : Array Value} (h : Holds w b t cs) (k : Nat) : w.frozen? ⟨b, k, none⟩ = false := by
 have h' : w.heap[b]? = some (.cells cs t (0, 0)) := h
 simp [World.frozen?, h']
theorem cell_of {w : World} {b : Nat} {t : TypeId} {cs : Array Value} (h : Holds w b t cs) (k : Nat) : w.cell? ⟨b, k, none⟩ = cs[k]? := by
 have h' : w.heap[b]? = some (.cells cs t (0, 0)) := h
 simp [World.cell?, h']
theorem ren3 : insRen.t 3 = 3 := rfl
theorem zero_row (n : Nat) : Builtin.zeroCells (Value.int .i64 0).cells n = (List.replicate n (Value.int .i64 0)).toArray := by
 apply Array.toList_inj.1
 apply List.ext_getElem?
 intro j
 by_cases hj : j < n
 ·simp [Builtin.zeroCells, Value.cells, hj, Nat.mod_one]
 ·simp [Builtin.zeroCells, Value.cells, hj]
theorem alloc_grown (w : World) (o : Obj) (row : Option Nat) : w.grownBy (w.alloc o) row :=
 have h := (Below.refl w.heap.size w).alloc (Nat.le_refl _) o
 ⟨h.os, h.tape, h.output, h.size, fun k hk _ => h.block k hk⟩
theorem new_row {w : World} {B K : Nat} {xs : List Int} {r : Nat} {x : Int} (hB : B ≤ w.heap.size) (hr : r ≤ xs.length) (hc : xs.length + 1 ≤ K) (hm : K ≤ maxLen) (cs : List Value) (hs : cs.length = K)
  (hcs : cs.take (xs.length + 1) = (xs.map (Value.int .i64)).take r ++ [Value.int .i64 x] ++ (xs.map (Value.int .i64)).drop r) :
  OwnInts (w.drew.alloc (.cells cs.toArray 3)) B (.slice (some ⟨w.heap.size, 0, none⟩) (xs.length + 1) K) (xs.take r ++ x :: xs.drop r) ∧ ∀ row, w.grownBy (w.drew.alloc (.cells cs.toArray 3)) row := by
 refine ⟨own_ins hr hB (Holds.new w.drew 3 cs.toArray) hc hm hs hcs, fun row => ?_⟩
 have h := alloc_grown w.drew (.cells cs.toArray 3) row
 exact ⟨h.os, h.tape, h.output, h.size, h.block⟩
set_option maxHeartbeats 1000000 in
theorem Insert_own (B vb : Nat) (v : Value) (xs : List Int) (r : Nat) (x : Int) (w : World) (hB : B ≤ w.heap.size) (hv : OwnInts w B v xs) (hr : r ≤ xs.length) (hl : xs.length ≤ 1000) (hx : Holds w vb 3 #[Value.int .i64 x]) (hne : v.ownBlock ≠ some vb) :
  Calls Try.prog 130 #[v, .int .i64 r, .slice (some ⟨vb, 0, none⟩) 1 1] w fun e w' => ∃ v', e = .returned v' ∧ OwnInts w' B v' (xs.take r ++ x :: xs.drop r) ∧ w.grownBy w' v.ownBlock := by
 have hvs : ∀ (j : Nat) (u : Value), [Value.int .i64 x][j]? = some u → w.cell? ⟨vb, 0 + j, none⟩ = some u := fun j u hj => by
  rw [cell_of hx, Nat.zero_add]; simpa using hj
 have h1v : ∀ u ∈ [Value.int .i64 x], u.oneCell' = true := fun u hu => by rw [List.mem_singleton] at hu; subst hu; rfl
 have h1c : ∀ u ∈ xs.map (Value.int .i64), u.oneCell' = true := ints_one xs
 obtain ⟨hl1, ⟨rfl, h0⟩ | ⟨g, cap, cur, rfl, hg, hb, hn, hm, hsz, ht⟩⟩ := hv
 ·have e0 : xs = [] := List.eq_nil_of_length_eq_zero h0
  subst e0
  have er : r = 0 := by simpa using hr
  subst er
  have hc := Any2.slices_Insert_int_end_grow insLays none 0 0 vb 0 1 1 [] [Value.int .i64 x] w (by decide) (by decide) (by decide) (by decide) rfl rfl (fun _ => rfl) (fun a h => by cases h) hvs h1v
  simp only [ren3, zero_row] at hc
  refine hc.mono ?_
  rintro e w' ⟨rfl, rfl⟩
  obtain ⟨K, hK⟩ : ∃ z, z = grownCap w (0 + 1) 0 3 := ⟨_, rfl⟩
  have hcap := grownCap_ge w (0 + 1) 0 3
  have hcm := grownCap_le_maxLen w (0 + 1) 0 3 (by decide)
  rw [← hK] at hcap hcm ⊢
  have hn := new_row (w := w) (B := B) (xs := []) (r := 0) (x := x) hB (Nat.le_refl _) hcap hcm ([Value.int .i64 x] ++ List.replicate (K - (0 + 1)) (Value.int .i64 0)) (by simp; omega) (by simp)
  have e : (([] : List Value) ++ [Value.int .i64 x]).toArray ++ (List.replicate (K - (0 + 1)) (Value.int .i64 0)).toArray = ([Value.int .i64 x] ++ List.replicate (K - (0 + 1)) (Value.int .i64 0)).toArray := by simp
  rw [e]
  exact ⟨_, rfl, hn.1, hn.2 _⟩
 ·have hH : Holds w g 3 cur := hb
  have hgs : g < w.heap.size := (Array.getElem?_eq_some_iff.1 hb).1
  have hvb : vb ≠ g := fun e => hne (by rw [e]; rfl)
  have hcs : ∀ (j : Nat) (u : Value), (xs.map (Value.int .i64))[j]? = some u → w.cell? ⟨g, 0 + j, none⟩ = some u := fun j u hj => by
   have hjl : j < xs.length := by have := (List.getElem?_eq_some_iff.1 hj).1; simpa using this
   rw [← ht, List.getElem?_take, if_pos (by omega)] at hj
   rw [cell_of hH, Nat.zero_add]
   simpa using hj
  rw [Nat.mul_one] at hsz
  have hcl : cur.toList.length = cap := by simpa using hsz
  have htk : cur.toList.take xs.length = xs.map (Value.int .i64) := by rw [← ht, Nat.mul_one]
  have grown : ∀ (o o' : Nat) (vs vs' : List Value), w.grownBy ((w.drew.setCells g o vs).setCells g o' vs') (some g) := fun o o' vs vs' => by
   have hbw := below_cells (B := 0) (b := g) (Nat.zero_le _) vs' o' _ (below_cells (B := 0) (b := g) (Nat.zero_le _) vs o _ ((Below.refl 0 w).drew))
   refine ⟨hbw.os, hbw.tape, hbw.output, hbw.size, fun k hk hkg => ?_⟩
   have out : ∀ (vs : List Value) (o : Nat) (u : World), (u.setCells g o vs).heap[k]? = u.heap[k]? := by
    intro vs
    induction vs with
    | nil => intro o u; rfl
    | cons a vs ih => intro o u; rw [World.setCells, ih]; exact Below.heap_setCell u ⟨g, o, none⟩ a k (fun e => hkg (by rw [e]))
   rw [out, out]
   rfl
  by_cases hroom : xs.length + 1 ≤ cap
  ·have hsp : ∀ j, j < xs.length + 1 → (w.cell? ⟨g, 0 + j, none⟩).isSome = true := fun j hj => by
    rw [cell_of hH, Nat.zero_add, Array.getElem?_eq_getElem (by omega), Option.isSome_some]
   by_cases hlt : r < xs.length
   ·refine (Any2.slices_Insert_int_shift insLays g 0 xs.length cap r vb 0 1 1 (xs.map (Value.int .i64)) [Value.int .i64 x] w hlt (by decide) hroom (by unfold maxLen at hm; omega) hvb (by simp) rfl hcs hsp (fun j _ => frozen_of hH _) hvs h1c h1v _ _ _ _ (shape_of hx) (shape_of hH) (by omega) (frozen_of hx _) (frozen_of hx _)).mono ?_
    rintro e w' ⟨rfl, rfl⟩
    refine ⟨_, rfl, ?_, grown _ _ _ _⟩
    have hL1 : Holds w.drew g 3 cur.toList.toArray := by rw [Array.toArray_toList]; exact hH
    have hL2 := holds_setCells g 3 ((xs.map (Value.int .i64)).drop r) (0 + (r + 1)) w.drew cur.toList hL1 (by rw [List.length_drop, List.length_map]; omega)
    have hL3 := holds_setCells g 3 [Value.int .i64 x] (0 + r) _ _ hL2 (by simp; omega)
    refine own_ins hr hg hL3 hroom hm (by simp; omega) ?_
    have ha : (cur.toList.take (0 + (r + 1)) ++ (xs.map (Value.int .i64)).drop r ++ cur.toList.drop (0 + (r + 1) + ((xs.map (Value.int .i64)).drop r).length)).take (0 + r) = (xs.map (Value.int .i64)).take r := by
     rw [Nat.zero_add, Nat.zero_add, List.append_assoc, List.take_append_of_le_length (by rw [List.length_take]; omega), List.take_take, Nat.min_eq_left (by omega), ← htk, List.take_take, Nat.min_eq_left hr]
    have hb2 : (cur.toList.take (0 + (r + 1)) ++ (xs.map (Value.int .i64)).drop r ++ cur.toList.drop (0 + (r + 1) + ((xs.map (Value.int .i64)).drop r).length)).drop (0 + r + [Value.int .i64 x].length) = (xs.map (Value.int .i64)).drop r ++ cur.toList.drop (xs.length + 1) := by
     rw [Nat.zero_add, Nat.zero_add, List.length_singleton, List.append_assoc, List.drop_append_of_le_length (by rw [List.length_take]; omega), List.drop_of_length_le (by rw [List.length_take]; omega), List.nil_append, List.length_drop, List.length_map, show r + 1 + (xs.length - r) = xs.length + 1 from by omega]
    rw [ha, hb2, ← List.append_assoc]
    exact List.take_left' (by simp; omega)
   ·have er : r = xs.length := by omega
    subst er
    refine (Any2.slices_Insert_int_end_room insLays g 0 xs.length cap vb 0 1 1 [Value.int .i64 x] w (by decide) hroom (by unfold maxLen at hm; omega) rfl (fun j hj => by rw [Nat.add_assoc]; exact hsp _ (by omega)) (fun j _ => frozen_of hH _) hvs h1v).mono ?_
    rintro e w' ⟨rfl, rfl⟩
    refine ⟨_, rfl, ?_, ?_⟩
    ·have hL1 : Holds w g 3 cur.toList.toArray := by rw [Array.toArray_toList]; exact hH
     have hL2 := holds_setCells g 3 [Value.int .i64 x] (0 + xs.length) w cur.toList hL1 (by simp; omega)
     refine own_ins (Nat.le_refl _) hg hL2 hroom hm (by simp; omega) ?_
     rw [Nat.zero_add, htk, List.take_left' (by simp), List.take_of_length_le (by simp), List.drop_of_length_le (by simp), List.append_nil]
    ·have hbw := below_cells (B := 0) (b := g) (Nat.zero_le _) [Value.int .i64 x] (0 + xs.length) _ (Below.refl 0 w)
     refine ⟨hbw.os, hbw.tape, hbw.output, hbw.size, fun k hk hkg => ?_⟩
     exact Below.heap_setCell w ⟨g, 0 + xs.length, none⟩ (Value.int .i64 x) k (fun e => hkg (by rw [e]; rfl))
  ·by_cases hlt : r < xs.length
   ·have hc := Any2.slices_Insert_int_grow insLays g 0 xs.length cap r vb 0 1 1 (xs.map (Value.int .i64)) [Value.int .i64 x] w hlt (by decide) hn (by omega) (by omega) (by simp) rfl hcs hvs h1c h1v
    simp only [ren3, zero_row] at hc
    refine hc.mono ?_
    rintro e w' ⟨rfl, rfl⟩
    have hcap := grownCap_ge w (xs.length + 1) cap 3
    have hcm := grownCap_le_maxLen w (xs.length + 1) cap 3 (by unfold maxLen; omega)
    obtain ⟨K, hK⟩ : ∃ z, z = grownCap w (xs.length + 1) cap 3 := ⟨_, rfl⟩
    rw [← hK] at hcap hcm ⊢
    have e0 : ((xs.map (Value.int .i64)).take r).toArray ++ (List.replicate (xs.length + 1 - r) (Value.int .i64 0)).toArray ++ (List.replicate (K - (xs.length + 1)) (Value.int .i64 0)).toArray = ((xs.map (Value.int .i64)).take r ++ List.replicate (xs.length + 1 - r) (Value.int .i64 0) ++ List.replicate (K - (xs.length + 1)) (Value.int .i64 0)).toArray := by
     simp
    rw [e0]
    refine ⟨_, rfl, ?_, ?_⟩
    ·have hL0 := Holds.new w 3 ((xs.map (Value.int .i64)).take r ++ List.replicate (xs.length + 1 - r) (Value.int .i64 0) ++ List.replicate (K - (xs.length + 1)) (Value.int .i64 0)).toArray
     have hL1 := holds_setCells w.heap.size 3 [Value.int .i64 x] r _ _ hL0.drew (by simp; omega)
     have hL2 := holds_setCells w.heap.size 3 ((xs.map (Value.int .i64)).drop r) (r + 1) _ _ hL1.drew (by simp; omega)
     refine own_ins hr hB hL2 hcap hcm (by simp; omega) ?_
     have hA : ((xs.map (Value.int .i64)).take r).length = r := by rw [List.length_take, List.length_map]; omega
     have hD : ((xs.map (Value.int .i64)).drop r).length = xs.length - r := by rw [List.length_drop, List.length_map]
     generalize (xs.map (Value.int .i64)).take r = A at *
     generalize (xs.map (Value.int .i64)).drop r = D at *
     have e1 : (A ++ List.replicate (xs.length + 1 - r) (Value.int .i64 0) ++ List.replicate (K - (xs.length + 1)) (Value.int .i64 0)).take r = A := by
      rw [List.append_assoc]; exact List.take_left' hA
     rw [e1]
     have e2 : (A ++ [Value.int .i64 x] ++ (A ++ List.replicate (xs.length + 1 - r) (Value.int .i64 0) ++ List.replicate (K - (xs.length + 1)) (Value.int .i64 0)).drop (r + [Value.int .i64 x].length)).take (r + 1) = A ++ [Value.int .i64 x] := List.take_left' (by simp [hA])
     rw [e2]
     exact List.take_left' (by simp [hA, hD]; omega)
    ·have hbw := below_cells (B := 0) (b := w.heap.size) (Nat.zero_le _) ((xs.map (Value.int .i64)).drop r) (r + 1) _ ((below_cells (B := 0) (b := w.heap.size) (Nat.zero_le _) [Value.int .i64 x] r _ (((Below.refl 0 w).alloc (Nat.zero_le _) (.cells ((xs.map (Value.int .i64)).take r ++ List.replicate (xs.length + 1 - r) (Value.int .i64 0) ++ List.replicate (K - (xs.length + 1)) (Value.int .i64 0)).toArray 3)).drew)).drew)
     have hbb := below_cells (B := w.heap.size) (b := w.heap.size) (Nat.le_refl _) ((xs.map (Value.int .i64)).drop r) (r + 1) _ ((below_cells (B := w.heap.size) (b := w.heap.size) (Nat.le_refl _) [Value.int .i64 x] r _ (((Below.refl w.heap.size w).alloc (Nat.le_refl _) (.cells ((xs.map (Value.int .i64)).take r ++ List.replicate (xs.length + 1 - r) (Value.int .i64 0) ++ List.replicate (K - (xs.length + 1)) (Value.int .i64 0)).toArray 3)).drew)).drew)
     exact ⟨hbw.os, hbw.tape, hbw.output, hbw.size, fun k hk _ => hbb.block k hk⟩
   ·have er : r = xs.length := by omega
    subst er
    have hc := Any2.slices_Insert_int_end_grow insLays (some ⟨g, 0, none⟩) xs.length cap vb 0 1 1 (xs.map (Value.int .i64)) [Value.int .i64 x] w (by decide) hn (by omega) (by omega) (by simp) rfl (fun h => by cases h) (fun a ha j u hj => by cases ha; rw [Addr.add_mid]; exact hcs j u hj) hvs h1v
    simp only [ren3, zero_row] at hc
    refine hc.mono ?_
    rintro e w' ⟨rfl, rfl⟩
    have hcap := grownCap_ge w (xs.length + 1) cap 3
    have hcm := grownCap_le_maxLen w (xs.length + 1) cap 3 (by unfold maxLen; omega)
    obtain ⟨K, hK⟩ : ∃ z, z = grownCap w (xs.length + 1) cap 3 := ⟨_, rfl⟩
    rw [← hK] at hcap hcm ⊢
    have hn := new_row (w := w) (B := B) (xs := xs) (r := xs.length) (x := x) hB (Nat.le_refl _) hcap hcm (xs.map (Value.int .i64) ++ [Value.int .i64 x] ++ List.replicate (K - (xs.length + 1)) (Value.int .i64 0)) (by simp; omega) (by rw [List.take_left' (by simp), List.take_of_length_le (by simp), List.drop_of_length_le (by simp), List.append_nil])
    have e : (xs.map (Value.int .i64) ++ [Value.int .i64 x]).toArray ++ (List.replicate (K - (xs.length + 1)) (Value.int .i64 0)).toArray = (xs.map (Value.int .i64) ++ [Value.int .i64 x] ++ List.replicate (K - (xs.length + 1)) (Value.int .i64 0)).toArray := by simp
    rw [e]
    exact ⟨_, rfl, hn.1, hn.2 _⟩
structure Shuffled (n : Nat) (xs : List Int) : Prop where
 len : xs.length = n
 nodup : xs.Nodup
 ran : ∀ x ∈ xs, 0 ≤ x ∧ x < (n : Int)
theorem Shuffled.next {k r : Nat} {xs : List Int} (h : Shuffled k xs) (hr : r ≤ k) : Shuffled (k + 1) (xs.take r ++ (k : Int) :: xs.drop r) := by
 obtain ⟨h1, h2, h3⟩ := h
 have hm : ∀ x, x ∈ xs.take r ++ (k : Int) :: xs.drop r ↔ x = (k : Int) ∨ x ∈ xs := by
  intro x
  have : x ∈ xs ↔ x ∈ xs.take r ∨ x ∈ xs.drop r := by rw [← List.mem_append, List.take_append_drop]
  rw [this, List.mem_append, List.mem_cons]
  constructor
  ·rintro (h | h | h)
   ·exact .inr (.inl h)
   ·exact .inl h
   ·exact .inr (.inr h)
  ·rintro (h | h | h)
   ·exact .inr (.inl h)
   ·exact .inl h
   ·exact .inr (.inr h)
 refine ⟨by rw [List.length_append, List.length_cons, List.length_take, List.length_drop]; omega, ?_, fun x hx => ?_⟩
 ·have hp : (xs.take r ++ (k : Int) :: xs.drop r).Perm ((k : Int) :: xs) := by
   have := List.perm_middle (a := (k : Int)) (l₁ := xs.take r) (l₂ := xs.drop r)
   rw [List.take_append_drop] at this
   exact this
  exact hp.nodup_iff.2 (List.nodup_cons.2 ⟨fun h => by have := h3 _ h; omega, h2⟩)
 ·rcases (hm x).1 hx with rfl | h
  ·omega
  ·have := h3 x h; omega
theorem Shuffled.all {n : Nat} : ∀ {xs : List Int}, Shuffled n xs → ∀ i : Nat, i < n → (i : Int) ∈ xs := by
 intro xs h i hi
 refine Classical.byContradiction fun hno => ?_
 have key : ∀ (m : Nat) (ys : List Int), ys.Nodup → (∀ y ∈ ys, 0 ≤ y ∧ y < (m : Int)) → ys.length ≤ m := by
  intro m
  induction m with
  | zero =>
   intro ys _ hy
   cases ys with
   | nil => exact Nat.le_refl _
   | cons y ys => have := hy y (by simp); omega
  | succ m ih =>
   intro ys hn hy
   have hf := ih (ys.filter (fun y => y != (m : Int))) (hn.filter _) (fun y hyy => by
    have a := hy y (List.mem_filter.1 hyy).1
    have b := (List.mem_filter.1 hyy).2
    have b : y ≠ (m : Int) := by simpa using b
    omega)
   have hc : ys.length ≤ (ys.filter (fun y => y != (m : Int))).length + 1 := by
    clear ih hf hy
    induction ys with
    | nil => simp
    | cons y ys ih2 =>
     obtain ⟨q1, q2⟩ := List.nodup_cons.1 hn
     by_cases he : y = (m : Int)
     ·subst he
      have : ys.filter (fun y => y != (m : Int)) = ys := List.filter_eq_self.2 (fun z hz => by
       have : z ≠ (m : Int) := fun e => q1 (e ▸ hz)
       simpa using this)
      rw [List.filter_cons, this]
      simp
     ·have := ih2 q2
      rw [List.filter_cons, if_pos (by simpa using he), List.length_cons, List.length_cons]
      omega
   omega
 -- with i put in the place of n less 1 (or where it stands) there would be too few numbers
 have hk := key (n - 1) (xs.map (fun y => if y = ((n - 1 : Nat) : Int) then (i : Int) else y)) ?_ ?_
 ·rw [List.length_map, h.len] at hk
  omega
 ·refine List.Pairwise.map _ ?_ (List.Pairwise.and_mem.1 h.nodup)
  rintro a b ⟨ha, hb, hab⟩
  split
  ·split
   ·exact fun _ => hab (by omega)
   ·exact fun e => hno (e ▸ hb)
  ·split
   ·exact fun e => hno (e ▸ ha)
   ·exact hab
 ·intro y hy
  obtain ⟨z, hz, rfl⟩ := List.mem_map.1 hy
  have := h.ran z hz
  split
  ·rename_i e
   have : (i : Int) ≠ ((n - 1 : Nat) : Int) := fun e' => hno (by rw [e', ← e]; exact hz)
   omega
  ·rename_i e
   omega
theorem OwnInts.other {w w' : World} {S : Nat} {v : Value} {xs : List Int} (h : OwnInts w (S + 1) v xs) (g : w.grownBy w' (some S)) : OwnInts w' (S + 1) v xs := by
 obtain ⟨hl, h | ⟨k, cap, cur, e, hB, hg, r⟩⟩ := h
 ·exact ⟨hl, .inl h⟩
 ·exact ⟨hl, .inr ⟨k, cap, cur, e, hB, (g.block k (Array.getElem?_eq_some_iff.1 hg).1 (fun e => by cases e; omega)).trans hg, r⟩⟩
theorem own_ne {w : World} {B : Nat} {v : Value} {xs : List Int} (h : OwnInts w B v xs) {k : Nat} (hk : w.heap.size ≤ k) : v.ownBlock ≠ some k := by
 obtain ⟨hl, ⟨rfl, _⟩ | ⟨g, cap, cur, rfl, hB, hg, r⟩⟩ := h
 ·intro e; cases e
 ·intro e
  have := (Array.getElem?_eq_some_iff.1 hg).1
  have e1 : some g = some k := e
  cases e1
  omega
theorem own_ge {w : World} {B : Nat} {v : Value} {xs : List Int} (h : OwnInts w B v xs) {k : Nat} (hk : v.ownBlock = some k) : B ≤ k := by
 obtain ⟨hl, ⟨rfl, _⟩ | ⟨g, cap, cur, rfl, hB, hg, r⟩⟩ := h
 ·cases hk
 ·cases hk; exact hB
def ShufRel (w : World) (S : Nat) (A : Option Addr) (len cap n T : Nat) (v5 v8 : Value) (wr : World) : Prop :=
 ∃ (k tk : Nat) (m : Int) (xs : List Int), v8 = .int .i64 (k : Int) ∧ k ≤ n ∧ tk ≤ T + k ∧ Shuffled k xs ∧ OwnInts wr (S + 1) v5 xs ∧ Holds wr S 172 #[.slice A len cap, .int .i64 (tk : Int), .int .u32 m] ∧ Below S w wr ∧ S < wr.heap.size
set_option maxRecDepth 100000 in
set_option maxHeartbeats 4000000 in
theorem Shuffle_any (S : Nat) (A : Option Addr) (len cap T n : Nat) (m : Int) (w : World) (hS : Holds w S 172 #[.slice A len cap, .int .i64 (T : Int), .int .u32 m]) (hA : ∀ w', Below S w w' → BytesAt w' A len) (hn : len ≤ 9223372036854775807) (hT : T ≤ 1000) (hk : n ≤ 1000) :
  Calls Try.prog 75 #[.pointer (some ⟨S, 0, none⟩), .int .i64 (n : Int)] w fun e w' => ∃ v xs, e = .returned v ∧ Shuffled n xs ∧ OwnInts w' (S + 1) v xs ∧ Below S w w' := by
 have HS := Lib.hid hS
 have HY := Lib.hid hA
 have hlt := hS.lt
 clear hS hA
 go_enter Try.func75, Try.ntmps75
 go_wp2_with fail
 go_loopw [5, 8] (fun v5 v8 wr => ShufRel w S A len cap n T v5 v8 wr) (fun _ v8 _ => ((n : Int) - intOf v8).toNat)
 case atStart => exact ⟨0, T, m, [], rfl, Nat.zero_le _, by omega, ⟨rfl, .nil, fun x h => by cases h⟩, ⟨rfl, .inl ⟨rfl, rfl⟩⟩, HS.out, Below.refl _ _, hlt⟩
 case round =>
  obtain ⟨k, tk, mm, xs, rfl, hkn, htk, hsh, hown, hSr, hBr, hszr⟩ := hrel
  have HSH := Lib.hid hsh
  have HOW := Lib.hid hown
  have HSr := Lib.hid hSr
  have HBr := Lib.hid hBr
  have hlx := Lib.hid hsh.len
  clear hsh hown hSr hBr
  by_cases hlt2 : k < n
  ·have hki : (k : Int) < n := by omega
   go_wp2_with fail
   refine (Below_any S A len cap tk mm ((k : Int) + 1) _ HSr.out (HY.out _ HBr.out) hn (by omega) (by omega) (by omega)).mono ?_
   rintro e w2 ⟨r, m2, rfl, r0, r1, _, H2, g2⟩
   have HO2 := Lib.hid (HOW.out.other g2)
   have HS2 := Lib.hid H2
   have HB2 := Lib.hid (HBr.out.grown g2 (by omega) (fun k hk => by cases hk; exact Nat.le_refl _))
   have hsz2 := H2.lt
   clear H2 g2
   obtain ⟨rn, rfl⟩ : ∃ rn : Nat, r = (rn : Int) := ⟨r.toNat, by omega⟩
   have hrn : rn ≤ k := by omega
   clear r0 r1
   go_wp2_with fail
   refine (Insert_own (S + 1) w2.heap.size _ xs rn (k : Int) _ (by simp; omega) (HO2.out.up ((Below.refl _ _).alloc (Nat.le_refl _) _)) (by have := hlx.out; omega) (by have := hlx.out; omega) (Holds.new _ _ _) (own_ne HO2.out (Nat.le_refl _))).mono ?_
   rintro e w3 ⟨v3, rfl, h3, g3⟩
   have HO3 := Lib.hid h3
   have HB3 := Lib.hid ((HB2.out.alloc (by omega) (.cells #[.int .i64 (k : Int)] 3)).grown g3 (by simp; omega) (fun k hk => Nat.le_of_succ_le (own_ge HO2.out hk)))
   have HS3 := Lib.hid ((g3.block S (by simp; omega) (fun e => by have := own_ge HO2.out e.symm; omega)).trans (Holds.alloc HS2.out (.cells #[.int .i64 (k : Int)] 3)))
   have hs3 : S < w3.heap.size := Nat.lt_of_lt_of_le (by simp; omega : S < (w2.alloc (.cells #[.int .i64 (k : Int)] 3)).heap.size) g3.size
   clear h3 g3
   go_wp2_with fail
   go_roundw
   case rel => exact ⟨k + 1, tk + 1, m2, _, by go_num, by omega, by omega, HSH.out.next hrn, HO3.out, HS3.out, HB3.out, hs3⟩
   case measure => first | (simp [intOf]; done) | (simp [intOf]; omega)
  ·have hkn2 : k = n := by omega
   subst hkn2
   go_wp2_with fail
   go_ret
   exact ⟨_, _, rfl, HSH.out, HOW.out, HBr.out⟩

theorem cell_lt {w : World} {E k : Nat} {v : Value} (h : w.cell? ⟨E, k, none⟩ = some v) : E < w.heap.size := by
 unfold World.cell? at h
 split at h
 ·rename_i hg
  exact (Array.getElem?_eq_some_iff.1 hg).1
 ·cases h
end Go.Proofs.Ytdpgfaikmahmpaa
