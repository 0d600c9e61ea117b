
import Derived.Test.YtdpgfaikmahmpaaKAA
import Derived.Test.YtdpgfaikmahmpaaKAC
import Derived.Test.YtdpgfaikmahmpaaKBF
import Derived.Test.YtdpgfaikmahmpaaKBO
set_option linter.unusedSimpArgs false
set_option linter.unusedVariables false
namespace Go.Proofs.Ytdpgfaikmahmpaa
open Go.RowKit
theorem append_ref (w : World) (ty : TypeId) (B : Nat) (v : Value) (A : Option Addr) (q : Nat) (hs : List Hf) (hown : w.ownsRow B 42 5 v 0 []) (hA : HandsAt w A hs) (hd : A = none → hs.length = 0 ∧ q = 0) (hl : hs.length ≤ 1000) (hB : B ≤ w.heap.size) :
  ∃ A' d' w', (Builtin.append_ #[35, 35] ty #[v, .slice A hs.length q]).run Try.prog w = .ok (.slice A' hs.length d') w' ∧ w'.ownsRow B 42 5 (.slice A' hs.length d') hs.length (hs.flatMap Hf.cells) ∧ w.grownBy w' v.ownBlock := by
 obtain ⟨i0, hi, hz0, hz1, hz2⟩ := info_parts info_come
 have hfl := flat_len Hf.cells (fun _ => rfl) hs
 cases A with
 | none =>
  obtain ⟨h0, rfl⟩ := hd rfl
  have e : hs = [] := List.eq_nil_of_length_eq_zero h0
  subst e
  obtain ⟨A', d', rfl, _⟩ := row5_val hown
  exact ⟨A', d', w, run_append_owned_none (P := Try.prog) (w := w) B 35 ty 42 i0 5 und_come hi _ 0 [] hown, hown, ⟨rfl, rfl, rfl, Nat.le_refl _, fun _ _ _ => rfl⟩⟩
 | some a =>
  obtain ⟨v', w', hrun, ho, hg, _⟩ := run_append_own (P := Try.prog) (w := w) B 35 ty 42 i0 _ 5 40 und_come hi hz0 hz1 hz2 rfl (by decide) v 0 [] hown a hs.length q (hs.flatMap Hf.cells) hfl (by
   by_cases h0 : 0 < hs.length
   ·obtain ⟨B', o, e, hcell⟩ := hA h0
    cases e
    exact hands_flat hcell
   ·intro j u hj
    have e : hs = [] := List.eq_nil_of_length_eq_zero (by omega)
    subst e
    simp at hj) (hands_one hs) (by unfold maxLen; omega) (by omega) hB
  simp only [Nat.zero_add, List.nil_append] at ho
  obtain ⟨A', d', rfl, _⟩ := row5_val ho
  exact ⟨A', d', w', hrun, ho, hg⟩
set_option maxRecDepth 100000 in
set_option maxHeartbeats 4000000 in
theorem refTake_cart (full emp : Int) (A : Option Addr) (q : Nat) (hs : List Hf) (x : Hf) (w : World) (hA : HandsAt w A hs) (hl : hs.length ≤ 1000) (he : cartErr full emp hs ≠ 0) :
  Calls Try.prog 19 #[.agg #[.int .i64 full, .int .i64 emp, .slice A hs.length q], .agg #[.int .i64 x.spot, .int .i64 x.g0, .int .i64 x.g1, .int .i64 x.g2, .int .i64 x.g3]] w fun e w' => e = .returned (.tuple #[.agg #[.int .i64 0, .int .i64 0, .slice none 0 0], .int .i64 (cartErr full emp hs)]) ∧ Below w.heap.size w w' := by
 have HA := Lib.hid hA
 clear hA
 obtain ⟨E, hE⟩ : ∃ z, z = cartErr full emp hs := ⟨_, rfl⟩
 have hE0 : E ≠ 0 := by rw [hE]; exact he
 have hq : (E != 0) = true := by simpa using hE0
 rw [← hE]
 have HE := Lib.hid hE
 clear hE he
 go_enter Try.func19, Try.ntmps19
 go_wp2_with fail
 refine (refCheckCart_any full emp A q hs _ (HA.out.up zg) hl).mono ?_
 rw [← HE.out]
 rintro e w1 ⟨rfl, hb1⟩
 have Hc1 := Lib.hid (Holds.up (zp4 : Holds _ (w.heap.size) 37 #[.int .i64 full, .int .i64 emp, .slice A hs.length q]) hb1)
 have Hh1 := Lib.hid (Holds.up (zp4 : Holds _ (w.heap.size + 1) 42 #[.int .i64 x.spot, .int .i64 x.g0, .int .i64 x.g1, .int .i64 x.g2, .int .i64 x.g3]) hb1)
 have Hr1 := Lib.hid (Holds.up (zp4 : Holds _ (w.heap.size + 1 + 1) 37 #[.int .i64 0, .int .i64 0, .slice none 0 0]) hb1)
 have HS1 : Hid (Below w.heap.size w w1) := Lib.hid (Below.trans zg (hb1.mono (by first | exact Nat.le_refl _ | omega | (simp; done) | (simp; omega))))
 have HB1 := HS1
 have hs1 := HB1.out.size
 have hst1 := HS1.out.size
 have HA1 := Lib.hid (HA.out.up HS1.out)
 clear hb1
 obtain ⟨kc0, kc1, kc2⟩ := Hc1.out.c3
 have lt_c : w.heap.size < w1.heap.size := Hc1.out.lt
 obtain ⟨kh0, kh1, kh2, kh3, kh4⟩ := Hh1.out.c5
 have lt_h : w.heap.size + 1 < w1.heap.size := Hh1.out.lt
 obtain ⟨kr0, kr1, kr2⟩ := Hr1.out.c3
 obtain ⟨zr0, zr1, zr2⟩ := Hr1.out.f3
 have lt_r : w.heap.size + 1 + 1 < w1.heap.size := Hr1.out.lt
 have lr2 : w.heap.size + 1 < w1.heap.size := by omega
 go_wp2_with fail
 all_goals refine ret_cell2 (t := 37) (cs := #[.int .i64 0, .int .i64 0, .slice none 0 0]) rfl rfl rfl (Holds.set3 _ _ _ Hr1.out) Try.underlying37 rfl (by kernel_rfl) rfl ⟨rfl, ?_⟩
 all_goals exact HB1.out.trans zg
set_option maxRecDepth 100000 in
set_option maxHeartbeats 4000000 in
theorem refTake_full (full emp : Int) (A : Option Addr) (q : Nat) (hs : List Hf) (x : Hf) (w : World) (hA : HandsAt w A hs) (hl6 : hs.length = 6) (he : cartErr full emp hs = 0) :
  Calls Try.prog 19 #[.agg #[.int .i64 full, .int .i64 emp, .slice A hs.length q], .agg #[.int .i64 x.spot, .int .i64 x.g0, .int .i64 x.g1, .int .i64 x.g2, .int .i64 x.g3]] w fun e w' => e = .returned (.tuple #[.agg #[.int .i64 0, .int .i64 0, .slice none 0 0], .int .i64 9]) ∧ Below w.heap.size w w' := by
 have HA := Lib.hid hA
 clear hA
 have HE := Lib.hid he
 have h6 : ((hs.length : Int) == 6) = true := by rw [hl6]; rfl
 clear he
 have hl : hs.length ≤ 1000 := by omega
 clear hl6
 go_enter Try.func19, Try.ntmps19
 go_wp2_with fail
 refine (refCheckCart_any full emp A q hs _ (HA.out.up zg) hl).mono ?_
 rw [HE.out]
 rintro e w1 ⟨rfl, hb1⟩
 have Hc1 := Lib.hid (Holds.up (zp4 : Holds _ (w.heap.size) 37 #[.int .i64 full, .int .i64 emp, .slice A hs.length q]) hb1)
 have Hh1 := Lib.hid (Holds.up (zp4 : Holds _ (w.heap.size + 1) 42 #[.int .i64 x.spot, .int .i64 x.g0, .int .i64 x.g1, .int .i64 x.g2, .int .i64 x.g3]) hb1)
 have Hr1 := Lib.hid (Holds.up (zp4 : Holds _ (w.heap.size + 1 + 1) 37 #[.int .i64 0, .int .i64 0, .slice none 0 0]) hb1)
 have HS1 : Hid (Below w.heap.size w w1) := Lib.hid (Below.trans zg (hb1.mono (by first | exact Nat.le_refl _ | omega | (simp; done) | (simp; omega))))
 have HB1 := HS1
 have hs1 := HB1.out.size
 have hst1 := HS1.out.size
 have HA1 := Lib.hid (HA.out.up HS1.out)
 clear hb1
 obtain ⟨kc0, kc1, kc2⟩ := Hc1.out.c3
 have lt_c : w.heap.size < w1.heap.size := Hc1.out.lt
 obtain ⟨kh0, kh1, kh2, kh3, kh4⟩ := Hh1.out.c5
 have lt_h : w.heap.size + 1 < w1.heap.size := Hh1.out.lt
 obtain ⟨kr0, kr1, kr2⟩ := Hr1.out.c3
 obtain ⟨zr0, zr1, zr2⟩ := Hr1.out.f3
 have lt_r : w.heap.size + 1 + 1 < w1.heap.size := Hr1.out.lt
 have lr2 : w.heap.size + 1 < w1.heap.size := by omega
 go_wp2_with fail
 all_goals refine ret_cell2 (t := 37) (cs := #[.int .i64 0, .int .i64 0, .slice none 0 0]) rfl rfl rfl (Holds.set3 _ _ _ Hr1.out) Try.underlying37 rfl (by kernel_rfl) rfl ⟨rfl, ?_⟩
 all_goals exact HB1.out.trans zg
def Rowed (w : World) (B : Nat) (e : TypeId) (v : Value) (n : Nat) (xs : List Value) : Prop := w.ownsRow B e 5 v n xs
theorem Rowed.up {w w' : World} {B n : Nat} {e : TypeId} {v : Value} {xs : List Value} (h : Rowed w B e v n xs) (hb : Below w.heap.size w w') : Rowed w' B e v n xs := row5_up h hb
theorem row_empty {w : World} {B g : Nat} {e : TypeId} (h : Holds w g e #[]) (hg : B ≤ g) : w.ownsRow B e 5 (.slice (some ⟨g, 0, none⟩) 0 0) 0 [] := ⟨rfl, .inr ⟨g, 0, #[], rfl, hg, h, Nat.le_refl _, by decide, rfl, rfl⟩⟩
theorem held_ne {w : World} {b g : Nat} {t e : TypeId} {cs ds : Array Value} (h : Holds w b t cs) (h2 : Holds w g e ds) (ht : t ≠ e) {n q : Nat} : (Value.slice (some ⟨g, 0, none⟩) n q).ownBlock ≠ some b := by
 intro hk
 have hk' : some g = some b := hk
 cases hk'
 have := h.symm.trans h2
 simp at this
 first | exact ht this.2 | exact ht this.2.1
theorem held_cells {w : World} {b g : Nat} {e : TypeId} {cs ds : Array Value} (h : Holds w b e cs) (h2 : Holds w g e ds) (ht : cs.size ≠ ds.size) {n q : Nat} : (Value.slice (some ⟨g, 0, none⟩) n q).ownBlock ≠ some b := by
 intro hk
 have hk' : some g = some b := hk
 cases hk'
 have := h.symm.trans h2
 simp at this
 exact ht (by rw [this])
theorem rowed_empty {w w' : World} {B g n m q : Nat} {e : TypeId} {v : Value} {xs : List Value} (h : Rowed w B e v (n + 1) xs) (h2 : Holds w g e #[]) (gr : w.grownBy w' (Value.slice (some ⟨g, 0, none⟩) m q).ownBlock) : Rowed w' B e v (n + 1) xs := by
 obtain ⟨hl, ⟨_, h0⟩ | ⟨k, cap, cur, ev, hB, hg, hn, hm, hs, ht⟩⟩ := h
 ·omega
 ·refine ⟨hl, .inr ⟨k, cap, cur, ev, hB, (gr.block k (Array.getElem?_eq_some_iff.1 hg).1 (fun hk => ?_)).trans hg, hn, hm, hs, ht⟩⟩
  have hk' : some k = some g := hk
  cases hk'
  have := hg.symm.trans h2
  simp at this
  rw [this] at hs
  simp at hs
  omega
theorem Holds.set3_ne {w : World} {B b : Nat} {t e : TypeId} {cs ds : Array Value} {u0 u1 u2 : Value} (h : Holds w B t cs) (h2 : Holds w b e ds) (ht : t ≠ e) : Holds (((w.setCell ⟨b, 0, none⟩ u0).setCell ⟨b, 1, none⟩ u1).setCell ⟨b, 2, none⟩ u2) B t cs := by
 have hne : B ≠ b := fun e => by
  subst e
  have := h.symm.trans h2
  simp at this
  first | exact ht this.2 | exact ht this.2.1
 exact ((h.far (p := ⟨b, 0, none⟩) (by simpa using hne) _).far (p := ⟨b, 1, none⟩) (by simpa using hne) _).far (p := ⟨b, 2, none⟩) (by simpa using hne) _
theorem rowed_set3 {w : World} {B b n : Nat} {v : Value} {xs : List Value} {ds : Array Value} {u0 u1 u2 : Value} (h : Rowed w B 42 v n xs) (h2 : Holds w b 37 ds) : Rowed (((w.setCell ⟨b, 0, none⟩ u0).setCell ⟨b, 1, none⟩ u1).setCell ⟨b, 2, none⟩ u2) B 42 v n xs := by
 obtain ⟨hl, h | ⟨k, cap, cur, ev, hB, hg, r⟩⟩ := h
 ·exact ⟨hl, .inl h⟩
 ·have hk : Holds w k 42 cur := hg
  exact ⟨hl, .inr ⟨k, cap, cur, ev, hB, hk.set3_ne h2 (by decide), r⟩⟩
theorem rowed_snoc {w : World} {B : Nat} {v : Value} {hs : List Hf} {x : Hf} (h : w.ownsRow B 42 5 v (hs.length + 1) (hs.flatMap Hf.cells ++ x.cells)) : Rowed w B 42 v (hs.length + 1) ((hs ++ [x]).flatMap Hf.cells) := by
 unfold Rowed
 rw [List.flatMap_append]
 simpa using h
theorem rowed_hands {w : World} {B c : Nat} {A : Option Addr} {hs : List Hf} {x : Hf} (h : w.ownsRow B 42 5 (.slice A (hs.length + 1) c) (hs.length + 1) ((hs ++ [x]).flatMap Hf.cells)) : HandsAt w A (hs ++ [x]) := by
 have e : (hs ++ [x]).length = hs.length + 1 := by rw [List.length_append]; rfl
 rw [← e] at h
 obtain ⟨A', q, ev, _, hh⟩ := come_at h
 cases ev
 exact hh
set_option maxRecDepth 100000 in
set_option maxHeartbeats 4000000 in
theorem refTake_more (full emp : Int) (A : Option Addr) (q : Nat) (hs : List Hf) (x : Hf) (w : World) (hA : HandsAt w A hs) (hd : A = none → hs.length = 0 ∧ q = 0) (hl5 : hs.length ≤ 5) (he : cartErr full emp hs = 0) (he' : cartErr full emp (hs ++ [x]) ≠ 0) :
  Calls Try.prog 19 #[.agg #[.int .i64 full, .int .i64 emp, .slice A hs.length q], .agg #[.int .i64 x.spot, .int .i64 x.g0, .int .i64 x.g1, .int .i64 x.g2, .int .i64 x.g3]] w fun e w' => e = .returned (.tuple #[.agg #[.int .i64 0, .int .i64 0, .slice none 0 0], .int .i64 (cartErr full emp (hs ++ [x]))]) ∧ Below w.heap.size w w' := by
 obtain ⟨ti, hti, hti0, hti1, hti2⟩ := info_parts info_come
 have HA := Lib.hid hA
 clear hA
 have HE := Lib.hid he
 clear he
 have hl : hs.length ≤ 1000 := by omega
 have h6 : ((hs.length : Int) == 6) = false := beq_eq_false_iff_ne.2 (by omega)
 have hl2 : (hs ++ [x]).length ≤ 1000 := by rw [List.length_append]; show hs.length + 1 ≤ 1000; omega
 obtain ⟨E2, hE2⟩ : ∃ z, z = cartErr full emp (hs ++ [x]) := ⟨_, rfl⟩
 have HEE := Lib.hid hE2
 have hE0 : E2 ≠ 0 := by rw [hE2]; exact he'
 have hq2 : (E2 != 0) = true := by simpa using hE0
 rw [← hE2]
 clear hE2 he'
 go_enter Try.func19, Try.ntmps19
 go_wp2_with fail
 refine (refCheckCart_any full emp A q hs _ (HA.out.up zg) hl).mono ?_
 rw [HE.out]
 rintro e wq ⟨rfl, hbq⟩
 have Hcq := Lib.hid (Holds.up (zp4 : Holds _ (w.heap.size) 37 #[.int .i64 full, .int .i64 emp, .slice A hs.length q]) hbq)
 have Hhq := Lib.hid (Holds.up (zp4 : Holds _ (w.heap.size + 1) 42 #[.int .i64 x.spot, .int .i64 x.g0, .int .i64 x.g1, .int .i64 x.g2, .int .i64 x.g3]) hbq)
 have Hrq := Lib.hid (Holds.up (zp4 : Holds _ (w.heap.size + 1 + 1) 37 #[.int .i64 0, .int .i64 0, .slice none 0 0]) hbq)
 have HSq : Hid (Below w.heap.size w wq) := Lib.hid (Below.trans zg (hbq.mono (by first | exact Nat.le_refl _ | omega | (simp; done) | (simp; omega))))
 have HBq := HSq
 have hsq := HBq.out.size
 have hstq := HSq.out.size
 have HAq := Lib.hid (HA.out.up HSq.out)
 clear hbq
 obtain ⟨kc0, kc1, kc2⟩ := Hcq.out.c3
 have lt_c : w.heap.size < wq.heap.size := Hcq.out.lt
 obtain ⟨kh0, kh1, kh2, kh3, kh4⟩ := Hhq.out.c5
 have lt_h : w.heap.size + 1 < wq.heap.size := Hhq.out.lt
 obtain ⟨kr0, kr1, kr2⟩ := Hrq.out.c3
 obtain ⟨zr0, zr1, zr2⟩ := Hrq.out.f3
 have lt_r : w.heap.size + 1 + 1 < wq.heap.size := Hrq.out.lt
 have HIDC := trivial
 go_wp2_with fail
 rename_i Kc hKc
 have HSL := Lib.hid (show slotsOf [some 20, some 21, some 22, some 23, some 24, some 25, some 26, some 27, some 28, some 29, some 30, some 31, some 7, none] = [20, 21, 22, 23, 24, 25, 26, 27, 28, 29, 30, 31, 7] from rfl)
 refine wp_region_partsG (by kernel_rfl) [some 20, some 21, some 22, some 23, some 24, some 25, some 26, some 27, some 28, some 29, some 30, some 31, some 7, none] (fun jq xq w' => match jq with
  | 0 => xq 20 = .pointer (some ⟨w.heap.size, 0, none⟩)
  | 1 => xq 21 = .int .i64 full
  | 2 => xq 22 = .pointer (some ⟨w.heap.size, 1, none⟩)
  | 3 => xq 23 = .int .i64 emp
  | 4 => ∃ g, xq 24 = .slice (some ⟨g, 0, none⟩) 0 0 ∧ wq.heap.size ≤ g ∧ Holds w' g 42 #[]
  | 5 => xq 25 = .pointer (some ⟨w.heap.size, 2, none⟩)
  | 6 => xq 26 = .slice A hs.length q
  | 7 => ∃ A2 d2, xq 27 = .slice A2 hs.length d2 ∧ Rowed w' wq.heap.size 42 (.slice A2 hs.length d2) hs.length (hs.flatMap Hf.cells)
  | 8 => xq 28 = .agg #[.int .i64 x.spot, .int .i64 x.g0, .int .i64 x.g1, .int .i64 x.g2, .int .i64 x.g3]
  | 9 => ∃ b, xq 29 = .slice (some ⟨b, 0, none⟩) 1 1 ∧ Holds w' b 42 x.cells.toArray
  | 10 => ∃ A3 d3, xq 30 = .slice A3 (hs.length + 1) d3 ∧ Rowed w' wq.heap.size 42 (.slice A3 (hs.length + 1) d3) (hs.length + 1) ((hs ++ [x]).flatMap Hf.cells)
  | 11 => ∃ A3 d3, xq 31 = .agg #[.int .i64 full, .int .i64 emp, .slice A3 (hs.length + 1) d3] ∧ xq 30 = .slice A3 (hs.length + 1) d3
  | 12 => ∃ b, xq 7 = .pointer (some ⟨b, 0, none⟩) ∧ wq.heap.size ≤ b ∧ Holds w' b 37 #[.int .i64 0, .int .i64 0, .slice none 0 0]
  | 13 => ∃ b A3 d3, xq 7 = .pointer (some ⟨b, 0, none⟩) ∧ xq 30 = .slice A3 (hs.length + 1) d3 ∧ wq.heap.size ≤ b ∧ Holds w' b 37 #[.int .i64 full, .int .i64 emp, .slice A3 (hs.length + 1) d3]
  | _ => True) [[20], [21], [22], [23], [24], [25], [26], [27], [28], [29], [30], [31, 30], [7], [7, 30]] [(7, 4), (10, 4), (10, 7), (10, 9), (13, 12)] (fun w' => Below wq.heap.size wq w') (by kernel_rfl)  ?_ ?_ (fun w' w'' hb h => h.trans (hb.mono h.size)) (Below.refl _ _) ?_ ?_ ?_
 ·intro jq xq xq' wqq h hv
  match jq, h, hv with
  | 0, h, hv => show xq' 20 = .pointer (some ⟨w.heap.size, 0, none⟩); rw [← h 20 (by decide)]; exact hv
  | 1, h, hv => show xq' 21 = .int .i64 full; rw [← h 21 (by decide)]; exact hv
  | 2, h, hv => show xq' 22 = .pointer (some ⟨w.heap.size, 1, none⟩); rw [← h 22 (by decide)]; exact hv
  | 3, h, hv => show xq' 23 = .int .i64 emp; rw [← h 23 (by decide)]; exact hv
  | 4, h, hv => show ∃ g, xq' 24 = .slice (some ⟨g, 0, none⟩) 0 0 ∧ wq.heap.size ≤ g ∧ Holds wqq g 42 #[]; rw [← h 24 (by decide)]; exact hv
  | 5, h, hv => show xq' 25 = .pointer (some ⟨w.heap.size, 2, none⟩); rw [← h 25 (by decide)]; exact hv
  | 6, h, hv => show xq' 26 = .slice A hs.length q; rw [← h 26 (by decide)]; exact hv
  | 7, h, hv => show ∃ A2 d2, xq' 27 = .slice A2 hs.length d2 ∧ Rowed wqq wq.heap.size 42 (.slice A2 hs.length d2) hs.length (hs.flatMap Hf.cells); rw [← h 27 (by decide)]; exact hv
  | 8, h, hv => show xq' 28 = .agg #[.int .i64 x.spot, .int .i64 x.g0, .int .i64 x.g1, .int .i64 x.g2, .int .i64 x.g3]; rw [← h 28 (by decide)]; exact hv
  | 9, h, hv => show ∃ b, xq' 29 = .slice (some ⟨b, 0, none⟩) 1 1 ∧ Holds wqq b 42 x.cells.toArray; rw [← h 29 (by decide)]; exact hv
  | 10, h, hv => show ∃ A3 d3, xq' 30 = .slice A3 (hs.length + 1) d3 ∧ Rowed wqq wq.heap.size 42 (.slice A3 (hs.length + 1) d3) (hs.length + 1) ((hs ++ [x]).flatMap Hf.cells); rw [← h 30 (by decide)]; exact hv
  | 11, h, hv => show ∃ A3 d3, xq' 31 = .agg #[.int .i64 full, .int .i64 emp, .slice A3 (hs.length + 1) d3] ∧ xq' 30 = .slice A3 (hs.length + 1) d3; rw [← h 31 (by decide), ← h 30 (by decide)]; exact hv
  | 12, h, hv => show ∃ b, xq' 7 = .pointer (some ⟨b, 0, none⟩) ∧ wq.heap.size ≤ b ∧ Holds wqq b 37 #[.int .i64 0, .int .i64 0, .slice none 0 0]; rw [← h 7 (by decide)]; exact hv
  | 13, h, hv => show ∃ b A3 d3, xq' 7 = .pointer (some ⟨b, 0, none⟩) ∧ xq' 30 = .slice A3 (hs.length + 1) d3 ∧ wq.heap.size ≤ b ∧ Holds wqq b 37 #[.int .i64 full, .int .i64 emp, .slice A3 (hs.length + 1) d3]; rw [← h 7 (by decide), ← h 30 (by decide)]; exact hv
  | _ + 14, _, _ => trivial
 ·intro jq xq wqq w' hb' hv
  match jq, hv with
  | 0, hv => exact hv
  | 1, hv => exact hv
  | 2, hv => exact hv
  | 3, hv => exact hv
  | 4, ⟨b0, h0, h1, h2⟩ => exact ⟨b0, h0, h1, h2.up hb'⟩
  | 5, hv => exact hv
  | 6, hv => exact hv
  | 7, ⟨b0, b1, h0, h1⟩ => exact ⟨b0, b1, h0, h1.up hb'⟩
  | 8, hv => exact hv
  | 9, ⟨b0, h0, h1⟩ => exact ⟨b0, h0, h1.up hb'⟩
  | 10, ⟨b0, b1, h0, h1⟩ => exact ⟨b0, b1, h0, h1.up hb'⟩
  | 11, ⟨b0, b1, h0, h1⟩ => exact ⟨b0, b1, h0, h1⟩
  | 12, ⟨b0, h0, h1, h2⟩ => exact ⟨b0, h0, h1, h2.up hb'⟩
  | 13, ⟨b0, b1, b2, h0, h1, h2, h3⟩ => exact ⟨b0, b1, b2, h0, h1, h2, h3.up hb'⟩
  | _ + 14, _ => trivial
 ·intro jq hj
  match jq, hj with
  | 0, hj => exact absurd hj (by decide)
  | 1, hj => exact absurd hj (by decide)
  | 2, hj => exact absurd hj (by decide)
  | 3, hj => exact absurd hj (by decide)
  | 4, hj => exact absurd hj (by decide)
  | 5, hj => exact absurd hj (by decide)
  | 6, hj => exact absurd hj (by decide)
  | 7, hj => exact absurd hj (by decide)
  | 8, hj => exact absurd hj (by decide)
  | 9, hj => exact absurd hj (by decide)
  | 10, hj => exact absurd hj (by decide)
  | 11, hj => exact absurd hj (by decide)
  | 12, hj => exact absurd hj (by decide)
  | 13, hj => exact absurd hj (by decide)
  | _ + 14, _ => trivial
 ·refine ⟨?_, ?_, ?_, ?_, ?_, ?_, ?_, ?_, ?_, ?_, ?_, ?_, ?_, ?_, trivial⟩
  ·intro xq wz hbz hx K hK0
   have hK := fun v w' hb => hK0 v w' (.inl hb)
   clear hx hKc hK0
   have hsz1 := hbz.size
   simp only [frameOf, fill, setSlot, sg, Nat.reduceBEq, if_true, if_false, Nat.reduceAdd, Nat.reduceEqDiff, HSL.out] at hK ⊢
   go_wp2_with (fail)
   exact hK _ _ (Below.refl _ _) rfl
  ·intro xq wz hbz hx K hK0
   have hK := fun v w' hb => hK0 v w' (.inl hb)
   have e20 : xq 20 = .pointer (some ⟨w.heap.size, 0, none⟩) := hx 0 (by rfl) (by rfl)
   clear hx hKc hK0
   have hsz1 := hbz.size
   have kc0' : wz.cell? ⟨w.heap.size, 0, none⟩ = some (.int .i64 full) := (Hcq.out.up hbz).cell 0
   have kc1' : wz.cell? ⟨w.heap.size, 1, none⟩ = some (.int .i64 emp) := (Hcq.out.up hbz).cell 1
   have kc2' : wz.cell? ⟨w.heap.size, 2, none⟩ = some (.slice A hs.length q) := (Hcq.out.up hbz).cell 2
   simp only [frameOf, fill, setSlot, sg, Nat.reduceBEq, if_true, if_false, Nat.reduceAdd, Nat.reduceEqDiff, HSL.out] at hK ⊢
   simp only [e20] at hK ⊢
   clear e20
   go_wp2_with (fail)
   exact hK _ _ (Below.refl _ _) rfl
  ·intro xq wz hbz hx K hK0
   have hK := fun v w' hb => hK0 v w' (.inl hb)
   clear hx hKc hK0
   have hsz1 := hbz.size
   simp only [frameOf, fill, setSlot, sg, Nat.reduceBEq, if_true, if_false, Nat.reduceAdd, Nat.reduceEqDiff, HSL.out] at hK ⊢
   go_wp2_with (fail)
   exact hK _ _ (Below.refl _ _) rfl
  ·intro xq wz hbz hx K hK0
   have hK := fun v w' hb => hK0 v w' (.inl hb)
   have e22 : xq 22 = .pointer (some ⟨w.heap.size, 1, none⟩) := hx 2 (by rfl) (by rfl)
   clear hx hKc hK0
   have hsz1 := hbz.size
   have kc0' : wz.cell? ⟨w.heap.size, 0, none⟩ = some (.int .i64 full) := (Hcq.out.up hbz).cell 0
   have kc1' : wz.cell? ⟨w.heap.size, 1, none⟩ = some (.int .i64 emp) := (Hcq.out.up hbz).cell 1
   have kc2' : wz.cell? ⟨w.heap.size, 2, none⟩ = some (.slice A hs.length q) := (Hcq.out.up hbz).cell 2
   simp only [frameOf, fill, setSlot, sg, Nat.reduceBEq, if_true, if_false, Nat.reduceAdd, Nat.reduceEqDiff, HSL.out] at hK ⊢
   simp only [e22] at hK ⊢
   clear e22
   go_wp2_with (fail)
   exact hK _ _ (Below.refl _ _) rfl
  ·intro xq wz hbz hx K hK0
   have hK := fun v w' hb => hK0 v w' (.inl hb)
   clear hx hKc hK0
   have hsz1 := hbz.size
   simp only [frameOf, fill, setSlot, sg, Nat.reduceBEq, if_true, if_false, Nat.reduceAdd, Nat.reduceEqDiff, HSL.out] at hK ⊢
   go_wp2_with (fail)
   exact hK _ _ ((Below.refl _ _).alloc (Nat.le_refl _) _) ⟨_, rfl, hbz.size, Holds.new _ _ _⟩
  ·intro xq wz hbz hx K hK0
   have hK := fun v w' hb => hK0 v w' (.inl hb)
   clear hx hKc hK0
   have hsz1 := hbz.size
   simp only [frameOf, fill, setSlot, sg, Nat.reduceBEq, if_true, if_false, Nat.reduceAdd, Nat.reduceEqDiff, HSL.out] at hK ⊢
   go_wp2_with (fail)
   exact hK _ _ (Below.refl _ _) rfl
  ·intro xq wz hbz hx K hK0
   have hK := fun v w' hb => hK0 v w' (.inl hb)
   have e25 : xq 25 = .pointer (some ⟨w.heap.size, 2, none⟩) := hx 5 (by rfl) (by rfl)
   clear hx hKc hK0
   have hsz1 := hbz.size
   have kc0' : wz.cell? ⟨w.heap.size, 0, none⟩ = some (.int .i64 full) := (Hcq.out.up hbz).cell 0
   have kc1' : wz.cell? ⟨w.heap.size, 1, none⟩ = some (.int .i64 emp) := (Hcq.out.up hbz).cell 1
   have kc2' : wz.cell? ⟨w.heap.size, 2, none⟩ = some (.slice A hs.length q) := (Hcq.out.up hbz).cell 2
   simp only [frameOf, fill, setSlot, sg, Nat.reduceBEq, if_true, if_false, Nat.reduceAdd, Nat.reduceEqDiff, HSL.out] at hK ⊢
   simp only [e25] at hK ⊢
   clear e25
   go_wp2_with (fail)
   exact hK _ _ (Below.refl _ _) rfl
  ·intro xq wz hbz hx K hK0
   have hK := fun v w' hb => hK0 v w' (.inr hb)
   obtain ⟨g24, e24, f24_0, f24_1⟩ := hx 4 (by rfl) (by rfl)
   have e26 : xq 26 = .slice A hs.length q := hx 6 (by rfl) (by rfl)
   clear hx hKc hK0
   have hsz1 := hbz.size
   obtain ⟨A2, d2, w2_, hrun, hrow, hgr⟩ := append_ref wz 35 wq.heap.size (.slice (some ⟨g24, 0, none⟩) 0 0) A q hs (row_empty f24_1 f24_0) (HAq.out.up hbz) hd hl hsz1
   have HGR := Lib.hid hgr
   have HRW := Lib.hid hrow
   clear hgr hrow
   simp only [frameOf, fill, setSlot, sg, Nat.reduceBEq, if_true, if_false, Nat.reduceAdd, Nat.reduceEqDiff, HSL.out] at hK ⊢
   simp only [e24, e26] at hK ⊢
   clear e24 e26
   go_wp2_with (at_builtin; (refine wpList_append_run _ rfl _ _ _ _ rfl _ _ rfl rfl hrun ?_))
   refine hK _ _ ⟨(hbz.grown HGR.out hsz1 (fun k hk => by cases hk; exact f24_0)), ?_⟩ ⟨_, _, rfl, HRW.out⟩
   intro jq xq hd hne hv
   match jq, hd, hne, hv with
   | 0, _, _, hv => exact hv
   | 1, _, _, hv => exact hv
   | 2, _, _, hv => exact hv
   | 3, _, _, hv => exact hv
   | 4, hd, _, _ => exact absurd hd (by decide)
   | 5, _, _, hv => exact hv
   | 6, _, _, hv => exact hv
   | 7, _, hne, _ => exact absurd rfl hne
   | 8, _, _, hv => exact hv
   | 9, _, _, hv => obtain ⟨b, e1, h2⟩ := hv; exact ⟨b, e1, held_row h2 HGR.out (held_cells h2 f24_1 (by simp [Hf.cells]))⟩
   | 10, _, _, hv => obtain ⟨a1_, d1, e1, h1⟩ := hv; exact ⟨a1_, d1, e1, rowed_empty h1 f24_1 HGR.out⟩
   | 11, _, _, hv => exact hv
   | 12, _, _, hv => obtain ⟨b, e1, h1, h2⟩ := hv; exact ⟨b, e1, h1, held_row h2 HGR.out (held_ne h2 f24_1 (by decide))⟩
   | 13, _, _, hv => obtain ⟨b, a1_, d1, e1, e2, h0, h1⟩ := hv; exact ⟨b, a1_, d1, e1, e2, h0, held_row h1 HGR.out (held_ne h1 f24_1 (by decide))⟩
   | _ + 14, _, _, _ => trivial
  ·intro xq wz hbz hx K hK0
   have hK := fun v w' hb => hK0 v w' (.inl hb)
   clear hx hKc hK0
   have hsz1 := hbz.size
   have kh0' : wz.cell? ⟨w.heap.size + 1, 0, none⟩ = some (.int .i64 x.spot) := (Hhq.out.up hbz).cell 0
   have kh1' : wz.cell? ⟨w.heap.size + 1, 1, none⟩ = some (.int .i64 x.g0) := (Hhq.out.up hbz).cell 1
   have kh2' : wz.cell? ⟨w.heap.size + 1, 2, none⟩ = some (.int .i64 x.g1) := (Hhq.out.up hbz).cell 2
   have kh3' : wz.cell? ⟨w.heap.size + 1, 3, none⟩ = some (.int .i64 x.g2) := (Hhq.out.up hbz).cell 3
   have kh4' : wz.cell? ⟨w.heap.size + 1, 4, none⟩ = some (.int .i64 x.g3) := (Hhq.out.up hbz).cell 4
   simp only [frameOf, fill, setSlot, sg, Nat.reduceBEq, if_true, if_false, Nat.reduceAdd, Nat.reduceEqDiff, HSL.out] at hK ⊢
   go_wp2_with (fail)
   exact hK _ _ (Below.refl _ _) rfl
  ·intro xq wz hbz hx K hK0
   have hK := fun v w' hb => hK0 v w' (.inl hb)
   have e28 : xq 28 = .agg #[.int .i64 x.spot, .int .i64 x.g0, .int .i64 x.g1, .int .i64 x.g2, .int .i64 x.g3] := hx 8 (by rfl) (by rfl)
   clear hx hKc hK0
   have hsz1 := hbz.size
   simp only [frameOf, fill, setSlot, sg, Nat.reduceBEq, if_true, if_false, Nat.reduceAdd, Nat.reduceEqDiff, HSL.out] at hK ⊢
   simp only [e28] at hK ⊢
   clear e28
   go_wp2_with (fail)
   exact hK _ _ ((Below.refl _ _).alloc (Nat.le_refl _) _) ⟨_, rfl, Holds.new _ _ _⟩
  ·intro xq wz hbz hx K hK0
   have hK := fun v w' hb => hK0 v w' (.inr hb)
   obtain ⟨A227, d227, e27, f27_0⟩ := hx 7 (by rfl) (by rfl)
   obtain ⟨b29, e29, f29_0⟩ := hx 9 (by rfl) (by rfl)
   clear hx hKc hK0
   have hsz1 := hbz.size
   simp only [frameOf, fill, setSlot, sg, Nat.reduceBEq, if_true, if_false, Nat.reduceAdd, Nat.reduceEqDiff, HSL.out] at hK ⊢
   simp only [e27, e29] at hK ⊢
   clear e27 e29
   go_wp2_with (at_builtin; (refine wpList_append_own _ rfl _ _ 35 rfl wq.heap.size 42 ti _ 5 40 und_come hti hti0 hti1 hti2 rfl (by decide) _ _ _ rfl f27_0 ⟨b29, 0, none⟩ 1 1 x.cells rfl rfl (holds_news f29_0) (hand_one _) (by unfold maxLen; omega) (by omega) hsz1 ?_); intro v5 w5_ hown5 hgrow5 _; obtain ⟨A5, c5, rfl, _⟩ := row5_val hown5; have HO5 := Lib.hid (rowed_snoc hown5); have HG5 := Lib.hid hgrow5; clear hown5 hgrow5)
   refine hK _ _ ⟨(hbz.grown HG5.out hsz1 (fun k hk => row5_block f27_0 k hk)), ?_⟩ ⟨_, _, rfl, HO5.out⟩
   intro jq xq hd hne hv
   match jq, hd, hne, hv with
   | 0, _, _, hv => exact hv
   | 1, _, _, hv => exact hv
   | 2, _, _, hv => exact hv
   | 3, _, _, hv => exact hv
   | 4, hd, _, _ => exact absurd hd (by decide)
   | 5, _, _, hv => exact hv
   | 6, _, _, hv => exact hv
   | 7, hd, _, _ => exact absurd hd (by decide)
   | 8, _, _, hv => exact hv
   | 9, hd, _, _ => exact absurd hd (by decide)
   | 10, _, hne, _ => exact absurd rfl hne
   | 11, _, _, hv => exact hv
   | 12, _, _, hv => obtain ⟨b, e1, h1, h2⟩ := hv; exact ⟨b, e1, h1, held_row h2 HG5.out (row5_at f27_0 h2 (by decide))⟩
   | 13, _, _, hv => obtain ⟨b, a1_, d1, e1, e2, h0, h1⟩ := hv; exact ⟨b, a1_, d1, e1, e2, h0, held_row h1 HG5.out (row5_at f27_0 h1 (by decide))⟩
   | _ + 14, _, _, _ => trivial
  ·intro xq wz hbz hx K hK0
   have hK := fun v w' hb => hK0 v w' (.inl hb)
   have e21 : xq 21 = .int .i64 full := hx 1 (by rfl) (by rfl)
   have e23 : xq 23 = .int .i64 emp := hx 3 (by rfl) (by rfl)
   obtain ⟨A330, d330, e30, f30_0⟩ := hx 10 (by rfl) (by rfl)
   clear hx hKc hK0
   have hsz1 := hbz.size
   simp only [frameOf, fill, setSlot, sg, Nat.reduceBEq, if_true, if_false, Nat.reduceAdd, Nat.reduceEqDiff, HSL.out] at hK ⊢
   simp only [e21, e23, e30] at hK ⊢
   clear e21 e23 e30
   go_wp2_with (fail)
   exact hK _ _ (Below.refl _ _) ⟨_, _, rfl, rfl⟩
  ·intro xq wz hbz hx K hK0
   have hK := fun v w' hb => hK0 v w' (.inl hb)
   clear hx hKc hK0
   have hsz1 := hbz.size
   simp only [frameOf, fill, setSlot, sg, Nat.reduceBEq, if_true, if_false, Nat.reduceAdd, Nat.reduceEqDiff, HSL.out] at hK ⊢
   go_wp2_with (fail)
   exact hK _ _ ((Below.refl _ _).alloc (Nat.le_refl _) _) ⟨_, rfl, hbz.size, Holds.new _ _ _⟩
  ·intro xq wz hbz hx K hK0
   have hK := fun v w' hb => hK0 v w' (.inr hb)
   obtain ⟨A331, d331, e31, f31_0⟩ := hx 11 (by rfl) (by rfl)
   obtain ⟨b7, e7, f7_0, f7_1⟩ := hx 12 (by rfl) (by rfl)
   clear hx hKc hK0
   have hsz1 := hbz.size
   obtain ⟨kb0, kb1, kb2⟩ := f7_1.c3
   obtain ⟨zb0, zb1, zb2⟩ := f7_1.f3
   simp only [frameOf, fill, setSlot, sg, Nat.reduceBEq, if_true, if_false, Nat.reduceAdd, Nat.reduceEqDiff, HSL.out] at hK ⊢
   have E31 := Lib.hid e31
   have E7 := Lib.hid e7
   simp only [e31, e7] at hK ⊢
   clear e31 e7
   go_wp2_with (fail)
   refine hK undef _ ⟨(by have h := hbz; exact zg), ?_⟩ ⟨_, _, _, rfl, f31_0, f7_0, Holds.set3 _ _ _ f7_1⟩
   intro jq xq hd hne hv
   match jq, hd, hne, hv with
   | 0, _, _, hv => exact hv
   | 1, _, _, hv => exact hv
   | 2, _, _, hv => exact hv
   | 3, _, _, hv => exact hv
   | 4, _, _, hv => obtain ⟨g, e1, h1, h2⟩ := hv; exact ⟨g, e1, h1, h2.set3_ne f7_1 (by decide)⟩
   | 5, _, _, hv => exact hv
   | 6, _, _, hv => exact hv
   | 7, _, _, hv => obtain ⟨a1_, d1, e1, h1⟩ := hv; exact ⟨a1_, d1, e1, rowed_set3 h1 f7_1⟩
   | 8, _, _, hv => exact hv
   | 9, _, _, hv => obtain ⟨b, e1, h2⟩ := hv; exact ⟨b, e1, h2.set3_ne f7_1 (by decide)⟩
   | 10, _, _, hv => obtain ⟨a1_, d1, e1, h1⟩ := hv; exact ⟨a1_, d1, e1, rowed_set3 h1 f7_1⟩
   | 11, _, _, hv => exact hv
   | 12, hd, _, _ => exact absurd hd (by decide)
   | 13, _, hne, _ => exact absurd rfl hne
   | _ + 14, _, _, _ => trivial
 ·intro xq wz hbz hx
  have e20 : xq 20 = .pointer (some ⟨w.heap.size, 0, none⟩) := hx 0 (by decide)
  have e21 : xq 21 = .int .i64 full := hx 1 (by decide)
  have e22 : xq 22 = .pointer (some ⟨w.heap.size, 1, none⟩) := hx 2 (by decide)
  have e23 : xq 23 = .int .i64 emp := hx 3 (by decide)
  have e25 : xq 25 = .pointer (some ⟨w.heap.size, 2, none⟩) := hx 5 (by decide)
  have e26 : xq 26 = .slice A hs.length q := hx 6 (by decide)
  have e28 : xq 28 = .agg #[.int .i64 x.spot, .int .i64 x.g0, .int .i64 x.g1, .int .i64 x.g2, .int .i64 x.g3] := hx 8 (by decide)
  obtain ⟨A330, d330, e30, f30_0⟩ := hx 10 (by decide)
  obtain ⟨A331, d331, e31, f31_0⟩ := hx 11 (by decide)
  obtain ⟨bn13, A3n13, d3n13, fn13_0, fn13_1, fn13_2, fn13_3⟩ := hx 13 (by decide)
  clear hx
  have hsz1 := hbz.size
  have e3 := e30.symm.trans fn13_1
  injection e3 with e3a _ e3b
  subst e3a
  subst e3b
  simp only [frameOf, fill, setSlot, sg, Nat.reduceBEq, if_true, if_false, Nat.reduceAdd, Nat.reduceEqDiff, HSL.out]
  simp only [e20, e21, e22, e23, e25, e26, e28, e30, e31, fn13_0, fn13_1]
  clear e20 e21 e22 e23 e25 e26 e28 e30 e31 fn13_0 fn13_1
  refine hKc _ _ ?_
  have HSz := Lib.hid hbz
  have HT := Lib.hid fn13_3
  have HRw := Lib.hid f30_0
  have Hcz := Lib.hid (Hcq.out.up hbz)
  have Hrz := Lib.hid (Hrq.out.up hbz)
  have hsz := HSz.out.size
  clear hbz fn13_3 f30_0
  obtain ⟨kt0, kt1, kt2⟩ := HT.out.c3
  have lt_t : bn13 < wz.heap.size := HT.out.lt
  have hbz9 := HSz.out
  go_wp2_with fail
  have hln : (hs ++ [x]).length = hs.length + 1 := by rw [List.length_append]; rfl
  have hcc := fun w' (h : HandsAt w' A330 (hs ++ [x])) => refCheckCart_any full emp A330 d330 (hs ++ [x]) w' h hl2
  rw [hln] at hcc
  refine (hcc _ (rowed_hands (row5_up HRw.out zg))).mono ?_
  rw [← HEE.out]
  rintro e w3 ⟨rfl, hb3⟩
  have hs3 := hb3.size
  have Hr3 := Lib.hid (Hrz.out.up hb3)
  have HT3 := Lib.hid (HT.out.up hb3)
  have HRw3 := Lib.hid (row5_up HRw.out hb3)
  have HS3 := Lib.hid (HSz.out.trans (hb3.mono HSz.out.size))
  have lrq : w.heap.size + 1 + 1 < wq.heap.size := Hrq.out.lt
  have hbn := fn13_2
  have lr2 : w.heap.size + 1 + 1 < w3.heap.size := Hr3.out.lt
  have lr3 : w.heap.size + 1 < w3.heap.size := by omega
  have lt3 : bn13 < w3.heap.size := HT3.out.lt
  clear hb3 kt0 kt1 kt2 lt_t
  obtain ⟨kr0, kr1, kr2⟩ := Hr3.out.c3
  obtain ⟨zr0, zr1, zr2⟩ := Hr3.out.f3
  obtain ⟨kt0, kt1, kt2⟩ := HT3.out.c3
  go_wp2_with fail
  all_goals refine ret_cell2 (t := 37) (cs := #[.int .i64 0, .int .i64 0, .slice none 0 0]) rfl rfl rfl (Holds.set3 _ _ _ Hr3.out) Try.underlying37 rfl (by kernel_rfl) rfl ⟨rfl, ?_⟩
  all_goals exact (HBq.out.trans (HS3.out.mono hsq)).trans zg
set_option maxRecDepth 100000 in
set_option maxHeartbeats 4000000 in
theorem refTake_ok (full emp : Int) (A : Option Addr) (q : Nat) (hs : List Hf) (x : Hf) (w : World) (hA : HandsAt w A hs) (hd : A = none → hs.length = 0 ∧ q = 0) (hl5 : hs.length ≤ 5) (he : cartErr full emp hs = 0) (he' : cartErr full emp (hs ++ [x]) = 0) :
  Calls Try.prog 19 #[.agg #[.int .i64 full, .int .i64 emp, .slice A hs.length q], .agg #[.int .i64 x.spot, .int .i64 x.g0, .int .i64 x.g1, .int .i64 x.g2, .int .i64 x.g3]] w fun e w' => ∃ A' c', e = .returned (.tuple #[.agg #[.int .i64 full, .int .i64 emp, .slice A' (hs.length + 1) c'], .int .i64 0]) ∧ Rowed w' w.heap.size 42 (.slice A' (hs.length + 1) c') (hs.length + 1) ((hs ++ [x]).flatMap Hf.cells) ∧ Below w.heap.size w w' := by
 obtain ⟨ti, hti, hti0, hti1, hti2⟩ := info_parts info_come
 have HA := Lib.hid hA
 clear hA
 have HE := Lib.hid he
 clear he
 have hl : hs.length ≤ 1000 := by omega
 have h6 : ((hs.length : Int) == 6) = false := beq_eq_false_iff_ne.2 (by omega)
 have hl2 : (hs ++ [x]).length ≤ 1000 := by rw [List.length_append]; show hs.length + 1 ≤ 1000; omega
 obtain ⟨E2, hE2⟩ : ∃ z, z = cartErr full emp (hs ++ [x]) := ⟨_, rfl⟩
 have HEE := Lib.hid hE2
 have hE0 : E2 = 0 := by rw [hE2]; exact he'
 clear hE2 he'
 go_enter Try.func19, Try.ntmps19
 go_wp2_with fail
 refine (refCheckCart_any full emp A q hs _ (HA.out.up zg) hl).mono ?_
 rw [HE.out]
 rintro e wq ⟨rfl, hbq⟩
 have Hcq := Lib.hid (Holds.up (zp4 : Holds _ (w.heap.size) 37 #[.int .i64 full, .int .i64 emp, .slice A hs.length q]) hbq)
 have Hhq := Lib.hid (Holds.up (zp4 : Holds _ (w.heap.size + 1) 42 #[.int .i64 x.spot, .int .i64 x.g0, .int .i64 x.g1, .int .i64 x.g2, .int .i64 x.g3]) hbq)
 have Hrq := Lib.hid (Holds.up (zp4 : Holds _ (w.heap.size + 1 + 1) 37 #[.int .i64 0, .int .i64 0, .slice none 0 0]) hbq)
 have HSq : Hid (Below w.heap.size w wq) := Lib.hid (Below.trans zg (hbq.mono (by first | exact Nat.le_refl _ | omega | (simp; done) | (simp; omega))))
 have HBq := HSq
 have hsq := HBq.out.size
 have hstq := HSq.out.size
 have HAq := Lib.hid (HA.out.up HSq.out)
 clear hbq
 obtain ⟨kc0, kc1, kc2⟩ := Hcq.out.c3
 have lt_c : w.heap.size < wq.heap.size := Hcq.out.lt
 obtain ⟨kh0, kh1, kh2, kh3, kh4⟩ := Hhq.out.c5
 have lt_h : w.heap.size + 1 < wq.heap.size := Hhq.out.lt
 obtain ⟨kr0, kr1, kr2⟩ := Hrq.out.c3
 obtain ⟨zr0, zr1, zr2⟩ := Hrq.out.f3
 have lt_r : w.heap.size + 1 + 1 < wq.heap.size := Hrq.out.lt
 have HIDC := trivial
 go_wp2_with fail
 rename_i Kc hKc
 have HSL := Lib.hid (show slotsOf [some 20, some 21, some 22, some 23, some 24, some 25, some 26, some 27, some 28, some 29, some 30, some 31, some 7, none] = [20, 21, 22, 23, 24, 25, 26, 27, 28, 29, 30, 31, 7] from rfl)
 refine wp_region_partsG (by kernel_rfl) [some 20, some 21, some 22, some 23, some 24, some 25, some 26, some 27, some 28, some 29, some 30, some 31, some 7, none] (fun jq xq w' => match jq with
  | 0 => xq 20 = .pointer (some ⟨w.heap.size, 0, none⟩)
  | 1 => xq 21 = .int .i64 full
  | 2 => xq 22 = .pointer (some ⟨w.heap.size, 1, none⟩)
  | 3 => xq 23 = .int .i64 emp
  | 4 => ∃ g, xq 24 = .slice (some ⟨g, 0, none⟩) 0 0 ∧ wq.heap.size ≤ g ∧ Holds w' g 42 #[]
  | 5 => xq 25 = .pointer (some ⟨w.heap.size, 2, none⟩)
  | 6 => xq 26 = .slice A hs.length q
  | 7 => ∃ A2 d2, xq 27 = .slice A2 hs.length d2 ∧ Rowed w' wq.heap.size 42 (.slice A2 hs.length d2) hs.length (hs.flatMap Hf.cells)
  | 8 => xq 28 = .agg #[.int .i64 x.spot, .int .i64 x.g0, .int .i64 x.g1, .int .i64 x.g2, .int .i64 x.g3]
  | 9 => ∃ b, xq 29 = .slice (some ⟨b, 0, none⟩) 1 1 ∧ Holds w' b 42 x.cells.toArray
  | 10 => ∃ A3 d3, xq 30 = .slice A3 (hs.length + 1) d3 ∧ Rowed w' wq.heap.size 42 (.slice A3 (hs.length + 1) d3) (hs.length + 1) ((hs ++ [x]).flatMap Hf.cells)
  | 11 => ∃ A3 d3, xq 31 = .agg #[.int .i64 full, .int .i64 emp, .slice A3 (hs.length + 1) d3] ∧ xq 30 = .slice A3 (hs.length + 1) d3
  | 12 => ∃ b, xq 7 = .pointer (some ⟨b, 0, none⟩) ∧ wq.heap.size ≤ b ∧ Holds w' b 37 #[.int .i64 0, .int .i64 0, .slice none 0 0]
  | 13 => ∃ b A3 d3, xq 7 = .pointer (some ⟨b, 0, none⟩) ∧ xq 30 = .slice A3 (hs.length + 1) d3 ∧ wq.heap.size ≤ b ∧ Holds w' b 37 #[.int .i64 full, .int .i64 emp, .slice A3 (hs.length + 1) d3]
  | _ => True) [[20], [21], [22], [23], [24], [25], [26], [27], [28], [29], [30], [31, 30], [7], [7, 30]] [(7, 4), (10, 4), (10, 7), (10, 9), (13, 12)] (fun w' => Below wq.heap.size wq w') (by kernel_rfl)  ?_ ?_ (fun w' w'' hb h => h.trans (hb.mono h.size)) (Below.refl _ _) ?_ ?_ ?_
 ·intro jq xq xq' wqq h hv
  match jq, h, hv with
  | 0, h, hv => show xq' 20 = .pointer (some ⟨w.heap.size, 0, none⟩); rw [← h 20 (by decide)]; exact hv
  | 1, h, hv => show xq' 21 = .int .i64 full; rw [← h 21 (by decide)]; exact hv
  | 2, h, hv => show xq' 22 = .pointer (some ⟨w.heap.size, 1, none⟩); rw [← h 22 (by decide)]; exact hv
  | 3, h, hv => show xq' 23 = .int .i64 emp; rw [← h 23 (by decide)]; exact hv
  | 4, h, hv => show ∃ g, xq' 24 = .slice (some ⟨g, 0, none⟩) 0 0 ∧ wq.heap.size ≤ g ∧ Holds wqq g 42 #[]; rw [← h 24 (by decide)]; exact hv
  | 5, h, hv => show xq' 25 = .pointer (some ⟨w.heap.size, 2, none⟩); rw [← h 25 (by decide)]; exact hv
  | 6, h, hv => show xq' 26 = .slice A hs.length q; rw [← h 26 (by decide)]; exact hv
  | 7, h, hv => show ∃ A2 d2, xq' 27 = .slice A2 hs.length d2 ∧ Rowed wqq wq.heap.size 42 (.slice A2 hs.length d2) hs.length (hs.flatMap Hf.cells); rw [← h 27 (by decide)]; exact hv
  | 8, h, hv => show xq' 28 = .agg #[.int .i64 x.spot, .int .i64 x.g0, .int .i64 x.g1, .int .i64 x.g2, .int .i64 x.g3]; rw [← h 28 (by decide)]; exact hv
  | 9, h, hv => show ∃ b, xq' 29 = .slice (some ⟨b, 0, none⟩) 1 1 ∧ Holds wqq b 42 x.cells.toArray; rw [← h 29 (by decide)]; exact hv
  | 10, h, hv => show ∃ A3 d3, xq' 30 = .slice A3 (hs.length + 1) d3 ∧ Rowed wqq wq.heap.size 42 (.slice A3 (hs.length + 1) d3) (hs.length + 1) ((hs ++ [x]).flatMap Hf.cells); rw [← h 30 (by decide)]; exact hv
  | 11, h, hv => show ∃ A3 d3, xq' 31 = .agg #[.int .i64 full, .int .i64 emp, .slice A3 (hs.length + 1) d3] ∧ xq' 30 = .slice A3 (hs.length + 1) d3; rw [← h 31 (by decide), ← h 30 (by decide)]; exact hv
  | 12, h, hv => show ∃ b, xq' 7 = .pointer (some ⟨b, 0, none⟩) ∧ wq.heap.size ≤ b ∧ Holds wqq b 37 #[.int .i64 0, .int .i64 0, .slice none 0 0]; rw [← h 7 (by decide)]; exact hv
  | 13, h, hv => show ∃ b A3 d3, xq' 7 = .pointer (some ⟨b, 0, none⟩) ∧ xq' 30 = .slice A3 (hs.length + 1) d3 ∧ wq.heap.size ≤ b ∧ Holds wqq b 37 #[.int .i64 full, .int .i64 emp, .slice A3 (hs.length + 1) d3]; rw [← h 7 (by decide), ← h 30 (by decide)]; exact hv
  | _ + 14, _, _ => trivial
 ·intro jq xq wqq w' hb' hv
  match jq, hv with
  | 0, hv => exact hv
  | 1, hv => exact hv
  | 2, hv => exact hv
  | 3, hv => exact hv
  | 4, ⟨b0, h0, h1, h2⟩ => exact ⟨b0, h0, h1, h2.up hb'⟩
  | 5, hv => exact hv
  | 6, hv => exact hv
  | 7, ⟨b0, b1, h0, h1⟩ => exact ⟨b0, b1, h0, h1.up hb'⟩
  | 8, hv => exact hv
  | 9, ⟨b0, h0, h1⟩ => exact ⟨b0, h0, h1.up hb'⟩
  | 10, ⟨b0, b1, h0, h1⟩ => exact ⟨b0, b1, h0, h1.up hb'⟩
  | 11, ⟨b0, b1, h0, h1⟩ => exact ⟨b0, b1, h0, h1⟩
  | 12, ⟨b0, h0, h1, h2⟩ => exact ⟨b0, h0, h1, h2.up hb'⟩
  | 13, ⟨b0, b1, b2, h0, h1, h2, h3⟩ => exact ⟨b0, b1, b2, h0, h1, h2, h3.up hb'⟩
  | _ + 14, _ => trivial
 ·intro jq hj
  match jq, hj with
  | 0, hj => exact absurd hj (by decide)
  | 1, hj => exact absurd hj (by decide)
  | 2, hj => exact absurd hj (by decide)
  | 3, hj => exact absurd hj (by decide)
  | 4, hj => exact absurd hj (by decide)
  | 5, hj => exact absurd hj (by decide)
  | 6, hj => exact absurd hj (by decide)
  | 7, hj => exact absurd hj (by decide)
  | 8, hj => exact absurd hj (by decide)
  | 9, hj => exact absurd hj (by decide)
  | 10, hj => exact absurd hj (by decide)
  | 11, hj => exact absurd hj (by decide)
  | 12, hj => exact absurd hj (by decide)
  | 13, hj => exact absurd hj (by decide)
  | _ + 14, _ => trivial
 ·refine ⟨?_, ?_, ?_, ?_, ?_, ?_, ?_, ?_, ?_, ?_, ?_, ?_, ?_, ?_, trivial⟩
  ·intro xq wz hbz hx K hK0
   have hK := fun v w' hb => hK0 v w' (.inl hb)
   clear hx hKc hK0
   have hsz1 := hbz.size
   simp only [frameOf, fill, setSlot, sg, Nat.reduceBEq, if_true, if_false, Nat.reduceAdd, Nat.reduceEqDiff, HSL.out] at hK ⊢
   go_wp2_with (fail)
   exact hK _ _ (Below.refl _ _) rfl
  ·intro xq wz hbz hx K hK0
   have hK := fun v w' hb => hK0 v w' (.inl hb)
   have e20 : xq 20 = .pointer (some ⟨w.heap.size, 0, none⟩) := hx 0 (by rfl) (by rfl)
   clear hx hKc hK0
   have hsz1 := hbz.size
   have kc0' : wz.cell? ⟨w.heap.size, 0, none⟩ = some (.int .i64 full) := (Hcq.out.up hbz).cell 0
   have kc1' : wz.cell? ⟨w.heap.size, 1, none⟩ = some (.int .i64 emp) := (Hcq.out.up hbz).cell 1
   have kc2' : wz.cell? ⟨w.heap.size, 2, none⟩ = some (.slice A hs.length q) := (Hcq.out.up hbz).cell 2
   simp only [frameOf, fill, setSlot, sg, Nat.reduceBEq, if_true, if_false, Nat.reduceAdd, Nat.reduceEqDiff, HSL.out] at hK ⊢
   simp only [e20] at hK ⊢
   clear e20
   go_wp2_with (fail)
   exact hK _ _ (Below.refl _ _) rfl
  ·intro xq wz hbz hx K hK0
   have hK := fun v w' hb => hK0 v w' (.inl hb)
   clear hx hKc hK0
   have hsz1 := hbz.size
   simp only [frameOf, fill, setSlot, sg, Nat.reduceBEq, if_true, if_false, Nat.reduceAdd, Nat.reduceEqDiff, HSL.out] at hK ⊢
   go_wp2_with (fail)
   exact hK _ _ (Below.refl _ _) rfl
  ·intro xq wz hbz hx K hK0
   have hK := fun v w' hb => hK0 v w' (.inl hb)
   have e22 : xq 22 = .pointer (some ⟨w.heap.size, 1, none⟩) := hx 2 (by rfl) (by rfl)
   clear hx hKc hK0
   have hsz1 := hbz.size
   have kc0' : wz.cell? ⟨w.heap.size, 0, none⟩ = some (.int .i64 full) := (Hcq.out.up hbz).cell 0
   have kc1' : wz.cell? ⟨w.heap.size, 1, none⟩ = some (.int .i64 emp) := (Hcq.out.up hbz).cell 1
   have kc2' : wz.cell? ⟨w.heap.size, 2, none⟩ = some (.slice A hs.length q) := (Hcq.out.up hbz).cell 2
   simp only [frameOf, fill, setSlot, sg, Nat.reduceBEq, if_true, if_false, Nat.reduceAdd, Nat.reduceEqDiff, HSL.out] at hK ⊢
   simp only [e22] at hK ⊢
   clear e22
   go_wp2_with (fail)
   exact hK _ _ (Below.refl _ _) rfl
  ·intro xq wz hbz hx K hK0
   have hK := fun v w' hb => hK0 v w' (.inl hb)
   clear hx hKc hK0
   have hsz1 := hbz.size
   simp only [frameOf, fill, setSlot, sg, Nat.reduceBEq, if_true, if_false, Nat.reduceAdd, Nat.reduceEqDiff, HSL.out] at hK ⊢
   go_wp2_with (fail)
   exact hK _ _ ((Below.refl _ _).alloc (Nat.le_refl _) _) ⟨_, rfl, hbz.size, Holds.new _ _ _⟩
  ·intro xq wz hbz hx K hK0
   have hK := fun v w' hb => hK0 v w' (.inl hb)
   clear hx hKc hK0
   have hsz1 := hbz.size
   simp only [frameOf, fill, setSlot, sg, Nat.reduceBEq, if_true, if_false, Nat.reduceAdd, Nat.reduceEqDiff, HSL.out] at hK ⊢
   go_wp2_with (fail)
   exact hK _ _ (Below.refl _ _) rfl
  ·intro xq wz hbz hx K hK0
   have hK := fun v w' hb => hK0 v w' (.inl hb)
   have e25 : xq 25 = .pointer (some ⟨w.heap.size, 2, none⟩) := hx 5 (by rfl) (by rfl)
   clear hx hKc hK0
   have hsz1 := hbz.size
   have kc0' : wz.cell? ⟨w.heap.size, 0, none⟩ = some (.int .i64 full) := (Hcq.out.up hbz).cell 0
   have kc1' : wz.cell? ⟨w.heap.size, 1, none⟩ = some (.int .i64 emp) := (Hcq.out.up hbz).cell 1
   have kc2' : wz.cell? ⟨w.heap.size, 2, none⟩ = some (.slice A hs.length q) := (Hcq.out.up hbz).cell 2
   simp only [frameOf, fill, setSlot, sg, Nat.reduceBEq, if_true, if_false, Nat.reduceAdd, Nat.reduceEqDiff, HSL.out] at hK ⊢
   simp only [e25] at hK ⊢
   clear e25
   go_wp2_with (fail)
   exact hK _ _ (Below.refl _ _) rfl
  ·intro xq wz hbz hx K hK0
   have hK := fun v w' hb => hK0 v w' (.inr hb)
   obtain ⟨g24, e24, f24_0, f24_1⟩ := hx 4 (by rfl) (by rfl)
   have e26 : xq 26 = .slice A hs.length q := hx 6 (by rfl) (by rfl)
   clear hx hKc hK0
   have hsz1 := hbz.size
   obtain ⟨A2, d2, w2_, hrun, hrow, hgr⟩ := append_ref wz 35 wq.heap.size (.slice (some ⟨g24, 0, none⟩) 0 0) A q hs (row_empty f24_1 f24_0) (HAq.out.up hbz) hd hl hsz1
   have HGR := Lib.hid hgr
   have HRW := Lib.hid hrow
   clear hgr hrow
   simp only [frameOf, fill, setSlot, sg, Nat.reduceBEq, if_true, if_false, Nat.reduceAdd, Nat.reduceEqDiff, HSL.out] at hK ⊢
   simp only [e24, e26] at hK ⊢
   clear e24 e26
   go_wp2_with (at_builtin; (refine wpList_append_run _ rfl _ _ _ _ rfl _ _ rfl rfl hrun ?_))
   refine hK _ _ ⟨(hbz.grown HGR.out hsz1 (fun k hk => by cases hk; exact f24_0)), ?_⟩ ⟨_, _, rfl, HRW.out⟩
   intro jq xq hd hne hv
   match jq, hd, hne, hv with
   | 0, _, _, hv => exact hv
   | 1, _, _, hv => exact hv
   | 2, _, _, hv => exact hv
   | 3, _, _, hv => exact hv
   | 4, hd, _, _ => exact absurd hd (by decide)
   | 5, _, _, hv => exact hv
   | 6, _, _, hv => exact hv
   | 7, _, hne, _ => exact absurd rfl hne
   | 8, _, _, hv => exact hv
   | 9, _, _, hv => obtain ⟨b, e1, h2⟩ := hv; exact ⟨b, e1, held_row h2 HGR.out (held_cells h2 f24_1 (by simp [Hf.cells]))⟩
   | 10, _, _, hv => obtain ⟨a1_, d1, e1, h1⟩ := hv; exact ⟨a1_, d1, e1, rowed_empty h1 f24_1 HGR.out⟩
   | 11, _, _, hv => exact hv
   | 12, _, _, hv => obtain ⟨b, e1, h1, h2⟩ := hv; exact ⟨b, e1, h1, held_row h2 HGR.out (held_ne h2 f24_1 (by decide))⟩
   | 13, _, _, hv => obtain ⟨b, a1_, d1, e1, e2, h0, h1⟩ := hv; exact ⟨b, a1_, d1, e1, e2, h0, held_row h1 HGR.out (held_ne h1 f24_1 (by decide))⟩
   | _ + 14, _, _, _ => trivial
  ·intro xq wz hbz hx K hK0
   have hK := fun v w' hb => hK0 v w' (.inl hb)
   clear hx hKc hK0
   have hsz1 := hbz.size
   have kh0' : wz.cell? ⟨w.heap.size + 1, 0, none⟩ = some (.int .i64 x.spot) := (Hhq.out.up hbz).cell 0
   have kh1' : wz.cell? ⟨w.heap.size + 1, 1, none⟩ = some (.int .i64 x.g0) := (Hhq.out.up hbz).cell 1
   have kh2' : wz.cell? ⟨w.heap.size + 1, 2, none⟩ = some (.int .i64 x.g1) := (Hhq.out.up hbz).cell 2
   have kh3' : wz.cell? ⟨w.heap.size + 1, 3, none⟩ = some (.int .i64 x.g2) := (Hhq.out.up hbz).cell 3
   have kh4' : wz.cell? ⟨w.heap.size + 1, 4, none⟩ = some (.int .i64 x.g3) := (Hhq.out.up hbz).cell 4
   simp only [frameOf, fill, setSlot, sg, Nat.reduceBEq, if_true, if_false, Nat.reduceAdd, Nat.reduceEqDiff, HSL.out] at hK ⊢
   go_wp2_with (fail)
   exact hK _ _ (Below.refl _ _) rfl
  ·intro xq wz hbz hx K hK0
   have hK := fun v w' hb => hK0 v w' (.inl hb)
   have e28 : xq 28 = .agg #[.int .i64 x.spot, .int .i64 x.g0, .int .i64 x.g1, .int .i64 x.g2, .int .i64 x.g3] := hx 8 (by rfl) (by rfl)
   clear hx hKc hK0
   have hsz1 := hbz.size
   simp only [frameOf, fill, setSlot, sg, Nat.reduceBEq, if_true, if_false, Nat.reduceAdd, Nat.reduceEqDiff, HSL.out] at hK ⊢
   simp only [e28] at hK ⊢
   clear e28
   go_wp2_with (fail)
   exact hK _ _ ((Below.refl _ _).alloc (Nat.le_refl _) _) ⟨_, rfl, Holds.new _ _ _⟩
  ·intro xq wz hbz hx K hK0
   have hK := fun v w' hb => hK0 v w' (.inr hb)
   obtain ⟨A227, d227, e27, f27_0⟩ := hx 7 (by rfl) (by rfl)
   obtain ⟨b29, e29, f29_0⟩ := hx 9 (by rfl) (by rfl)
   clear hx hKc hK0
   have hsz1 := hbz.size
   simp only [frameOf, fill, setSlot, sg, Nat.reduceBEq, if_true, if_false, Nat.reduceAdd, Nat.reduceEqDiff, HSL.out] at hK ⊢
   simp only [e27, e29] at hK ⊢
   clear e27 e29
   go_wp2_with (at_builtin; (refine wpList_append_own _ rfl _ _ 35 rfl wq.heap.size 42 ti _ 5 40 und_come hti hti0 hti1 hti2 rfl (by decide) _ _ _ rfl f27_0 ⟨b29, 0, none⟩ 1 1 x.cells rfl rfl (holds_news f29_0) (hand_one _) (by unfold maxLen; omega) (by omega) hsz1 ?_); intro v5 w5_ hown5 hgrow5 _; obtain ⟨A5, c5, rfl, _⟩ := row5_val hown5; have HO5 := Lib.hid (rowed_snoc hown5); have HG5 := Lib.hid hgrow5; clear hown5 hgrow5)
   refine hK _ _ ⟨(hbz.grown HG5.out hsz1 (fun k hk => row5_block f27_0 k hk)), ?_⟩ ⟨_, _, rfl, HO5.out⟩
   intro jq xq hd hne hv
   match jq, hd, hne, hv with
   | 0, _, _, hv => exact hv
   | 1, _, _, hv => exact hv
   | 2, _, _, hv => exact hv
   | 3, _, _, hv => exact hv
   | 4, hd, _, _ => exact absurd hd (by decide)
   | 5, _, _, hv => exact hv
   | 6, _, _, hv => exact hv
   | 7, hd, _, _ => exact absurd hd (by decide)
   | 8, _, _, hv => exact hv
   | 9, hd, _, _ => exact absurd hd (by decide)
   | 10, _, hne, _ => exact absurd rfl hne
   | 11, _, _, hv => exact hv
   | 12, _, _, hv => obtain ⟨b, e1, h1, h2⟩ := hv; exact ⟨b, e1, h1, held_row h2 HG5.out (row5_at f27_0 h2 (by decide))⟩
   | 13, _, _, hv => obtain ⟨b, a1_, d1, e1, e2, h0, h1⟩ := hv; exact ⟨b, a1_, d1, e1, e2, h0, held_row h1 HG5.out (row5_at f27_0 h1 (by decide))⟩
   | _ + 14, _, _, _ => trivial
  ·intro xq wz hbz hx K hK0
   have hK := fun v w' hb => hK0 v w' (.inl hb)
   have e21 : xq 21 = .int .i64 full := hx 1 (by rfl) (by rfl)
   have e23 : xq 23 = .int .i64 emp := hx 3 (by rfl) (by rfl)
   obtain ⟨A330, d330, e30, f30_0⟩ := hx 10 (by rfl) (by rfl)
   clear hx hKc hK0
   have hsz1 := hbz.size
   simp only [frameOf, fill, setSlot, sg, Nat.reduceBEq, if_true, if_false, Nat.reduceAdd, Nat.reduceEqDiff, HSL.out] at hK ⊢
   simp only [e21, e23, e30] at hK ⊢
   clear e21 e23 e30
   go_wp2_with (fail)
   exact hK _ _ (Below.refl _ _) ⟨_, _, rfl, rfl⟩
  ·intro xq wz hbz hx K hK0
   have hK := fun v w' hb => hK0 v w' (.inl hb)
   clear hx hKc hK0
   have hsz1 := hbz.size
   simp only [frameOf, fill, setSlot, sg, Nat.reduceBEq, if_true, if_false, Nat.reduceAdd, Nat.reduceEqDiff, HSL.out] at hK ⊢
   go_wp2_with (fail)
   exact hK _ _ ((Below.refl _ _).alloc (Nat.le_refl _) _) ⟨_, rfl, hbz.size, Holds.new _ _ _⟩
  ·intro xq wz hbz hx K hK0
   have hK := fun v w' hb => hK0 v w' (.inr hb)
   obtain ⟨A331, d331, e31, f31_0⟩ := hx 11 (by rfl) (by rfl)
   obtain ⟨b7, e7, f7_0, f7_1⟩ := hx 12 (by rfl) (by rfl)
   clear hx hKc hK0
   have hsz1 := hbz.size
   obtain ⟨kb0, kb1, kb2⟩ := f7_1.c3
   obtain ⟨zb0, zb1, zb2⟩ := f7_1.f3
   simp only [frameOf, fill, setSlot, sg, Nat.reduceBEq, if_true, if_false, Nat.reduceAdd, Nat.reduceEqDiff, HSL.out] at hK ⊢
   have E31 := Lib.hid e31
   have E7 := Lib.hid e7
   simp only [e31, e7] at hK ⊢
   clear e31 e7
   go_wp2_with (fail)
   refine hK undef _ ⟨(by have h := hbz; exact zg), ?_⟩ ⟨_, _, _, rfl, f31_0, f7_0, Holds.set3 _ _ _ f7_1⟩
   intro jq xq hd hne hv
   match jq, hd, hne, hv with
   | 0, _, _, hv => exact hv
   | 1, _, _, hv => exact hv
   | 2, _, _, hv => exact hv
   | 3, _, _, hv => exact hv
   | 4, _, _, hv => obtain ⟨g, e1, h1, h2⟩ := hv; exact ⟨g, e1, h1, h2.set3_ne f7_1 (by decide)⟩
   | 5, _, _, hv => exact hv
   | 6, _, _, hv => exact hv
   | 7, _, _, hv => obtain ⟨a1_, d1, e1, h1⟩ := hv; exact ⟨a1_, d1, e1, rowed_set3 h1 f7_1⟩
   | 8, _, _, hv => exact hv
   | 9, _, _, hv => obtain ⟨b, e1, h2⟩ := hv; exact ⟨b, e1, h2.set3_ne f7_1 (by decide)⟩
   | 10, _, _, hv => obtain ⟨a1_, d1, e1, h1⟩ := hv; exact ⟨a1_, d1, e1, rowed_set3 h1 f7_1⟩
   | 11, _, _, hv => exact hv
   | 12, hd, _, _ => exact absurd hd (by decide)
   | 13, _, hne, _ => exact absurd rfl hne
   | _ + 14, _, _, _ => trivial
 ·intro xq wz hbz hx
  have e20 : xq 20 = .pointer (some ⟨w.heap.size, 0, none⟩) := hx 0 (by decide)
  have e21 : xq 21 = .int .i64 full := hx 1 (by decide)
  have e22 : xq 22 = .pointer (some ⟨w.heap.size, 1, none⟩) := hx 2 (by decide)
  have e23 : xq 23 = .int .i64 emp := hx 3 (by decide)
  have e25 : xq 25 = .pointer (some ⟨w.heap.size, 2, none⟩) := hx 5 (by decide)
  have e26 : xq 26 = .slice A hs.length q := hx 6 (by decide)
  have e28 : xq 28 = .agg #[.int .i64 x.spot, .int .i64 x.g0, .int .i64 x.g1, .int .i64 x.g2, .int .i64 x.g3] := hx 8 (by decide)
  obtain ⟨A330, d330, e30, f30_0⟩ := hx 10 (by decide)
  obtain ⟨A331, d331, e31, f31_0⟩ := hx 11 (by decide)
  obtain ⟨bn13, A3n13, d3n13, fn13_0, fn13_1, fn13_2, fn13_3⟩ := hx 13 (by decide)
  clear hx
  have hsz1 := hbz.size
  have e3 := e30.symm.trans fn13_1
  injection e3 with e3a _ e3b
  subst e3a
  subst e3b
  simp only [frameOf, fill, setSlot, sg, Nat.reduceBEq, if_true, if_false, Nat.reduceAdd, Nat.reduceEqDiff, HSL.out]
  simp only [e20, e21, e22, e23, e25, e26, e28, e30, e31, fn13_0, fn13_1]
  clear e20 e21 e22 e23 e25 e26 e28 e30 e31 fn13_0 fn13_1
  refine hKc _ _ ?_
  have HSz := Lib.hid hbz
  have HT := Lib.hid fn13_3
  have HRw := Lib.hid f30_0
  have Hcz := Lib.hid (Hcq.out.up hbz)
  have Hrz := Lib.hid (Hrq.out.up hbz)
  have hsz := HSz.out.size
  clear hbz fn13_3 f30_0
  obtain ⟨kt0, kt1, kt2⟩ := HT.out.c3
  have lt_t : bn13 < wz.heap.size := HT.out.lt
  have hbz9 := HSz.out
  go_wp2_with fail
  have hln : (hs ++ [x]).length = hs.length + 1 := by rw [List.length_append]; rfl
  have hcc := fun w' (h : HandsAt w' A330 (hs ++ [x])) => refCheckCart_any full emp A330 d330 (hs ++ [x]) w' h hl2
  rw [hln] at hcc
  refine (hcc _ (rowed_hands (row5_up HRw.out zg))).mono ?_
  rw [← HEE.out]
  rw [hE0]
  rintro e w3 ⟨rfl, hb3⟩
  have hs3 := hb3.size
  have Hr3 := Lib.hid (Hrz.out.up hb3)
  have HT3 := Lib.hid (HT.out.up hb3)
  have HRw3 := Lib.hid (row5_up HRw.out hb3)
  have HS3 := Lib.hid (HSz.out.trans (hb3.mono HSz.out.size))
  have lrq : w.heap.size + 1 + 1 < wq.heap.size := Hrq.out.lt
  have hbn := fn13_2
  have lr2 : w.heap.size + 1 + 1 < w3.heap.size := Hr3.out.lt
  have lr3 : w.heap.size + 1 < w3.heap.size := by omega
  have lt3 : bn13 < w3.heap.size := HT3.out.lt
  clear hb3 kt0 kt1 kt2 lt_t
  obtain ⟨kr0, kr1, kr2⟩ := Hr3.out.c3
  obtain ⟨zr0, zr1, zr2⟩ := Hr3.out.f3
  obtain ⟨kt0, kt1, kt2⟩ := HT3.out.c3
  go_wp2_with fail
  all_goals refine ret_cell2 (t := 37) (cs := #[.int .i64 full, .int .i64 emp, .slice A330 (hs.length + 1) d330]) rfl rfl rfl (Holds.set3 _ _ _ Hr3.out) Try.underlying37 rfl (by kernel_rfl) rfl ⟨A330, d330, rfl, ?_, ?_⟩
  all_goals first | exact (HBq.out.trans (HS3.out.mono hsq)).trans zg | exact row5_mono (row5_far (row5_far (row5_far HRw3.out (p := ⟨w.heap.size + 1 + 1, 0, none⟩) lrq _) (p := ⟨w.heap.size + 1 + 1, 1, none⟩) lrq _) (p := ⟨w.heap.size + 1 + 1, 2, none⟩) lrq _) hsq
end Go.Proofs.Ytdpgfaikmahmpaa
