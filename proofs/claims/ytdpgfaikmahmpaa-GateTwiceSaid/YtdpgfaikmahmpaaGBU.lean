
import Derived.Test.YtdpgfaikmahmpaaGAA
import Derived.Test.YtdpgfaikmahmpaaGAC
import Derived.Test.YtdpgfaikmahmpaaGBF
import Derived.Test.YtdpgfaikmahmpaaGBR
import Derived.Test.YtdpgfaikmahmpaaGBT
set_option linter.unusedSimpArgs false
set_option linter.unusedVariables false
namespace Go.Proofs.Ytdpgfaikmahmpaa
open Go.RowKit
theorem append_hands (w : World) (ty : TypeId) (g n d B : Nat) (G : Option Addr) (hs : List Hf) (hown : w.ownsRow B 30 5 (.slice (some ⟨g, 0, none⟩) 0 n) 0 []) (hn : hs.length ≤ n) (hG : HandsAt w G hs) (hd : G = none → hs.length = 0 ∧ d = 0) :
  ∃ v w', (Builtin.append_ #[25, 25] ty #[.slice (some ⟨g, 0, none⟩) 0 n, .slice G hs.length d]).run Try.prog w = .ok v w' ∧ OwnHands w' B v hs ∧ w.grownBy w' (some g) := by
 obtain ⟨i0, hi, hz0, hz1, hz2⟩ := info_parts info_hand
 cases G with
 | none =>
  obtain ⟨h0, rfl⟩ := hd rfl
  have e : hs = [] := List.eq_nil_of_length_eq_zero h0
  subst e
  exact ⟨_, w, run_append_owned_none (P := Try.prog) (w := w) B 25 ty 30 i0 5 und_hands hi _ 0 [] hown, hown, grow_refl w g⟩
 | some a =>
  have hl := flat_len Hf.cells (fun _ => rfl) hs
  obtain ⟨w', hrun, ho, hg⟩ := run_append_fits (P := Try.prog) (w := w) B 25 ty 30 i0 5 und_hands hi hz1 g 0 n [] hown a hs.length d (hs.flatMap Hf.cells) hl (by
   by_cases h0 : 0 < hs.length
   ·obtain ⟨B', o, e, hcell⟩ := hG h0
    cases e
    exact hands_flat hcell
   ·intro j u hj
    have e : hs = [] := List.eq_nil_of_length_eq_zero (by omega)
    subst e
    simp at hj) (hands_one hs) (by omega)
  simp only [Nat.zero_add, List.nil_append] at ho hrun
  exact ⟨_, w', hrun, ho, hg⟩
set_option maxRecDepth 100000 in
set_option maxHeartbeats 2000000 in
theorem DupHands_any (G : Option Addr) (d : Nat) (hs : List Hf) (w : World) (hG : HandsAt w G hs) (hl : hs.length ≤ 1000) (hd : G = none → hs.length = 0 ∧ d = 0) :
  Calls Try.prog 81 #[.slice G hs.length d] w fun e w' => ∃ v, e = .returned v ∧ OwnHands w' w.heap.size v hs ∧ Below w.heap.size w w' := by
 obtain ⟨i0, hi, hz0, hz1, hz2⟩ := info_parts info_hand
 obtain ⟨w2, hrun2, hown2, hgr2⟩ := run_make_own (P := Try.prog) (w := w) w.heap.size 25 30 i0 _ 5 und_hands hi hz0 hz1 .i64 .i64 hs.length (by rw [hz2]; omega) (by unfold maxLen; omega) (Nat.le_refl _)
 have hb2 := below_none hgr2
 obtain ⟨v, w3, hrun3, hown3, hgr3⟩ := append_hands w2 25 w.heap.size hs.length d w.heap.size G hs hown2 (Nat.le_refl _) (hG.up hb2) hd
 have HO := Lib.hid hown3
 have HB : Hid (Below w.heap.size w w3) := Lib.hid (hb2.grown hgr3 hb2.size (fun k hk => by cases hk; exact Nat.le_refl _))
 clear hG hown2 hgr2 hown3 hgr3 hb2
 go_enter Try.func81, Try.ntmps81
 go_wp2_with (at_builtin; (refine wpList_append_run _ rfl _ _ _ _ rfl _ _ rfl rfl hrun3 ?_))
 go_ret
 exact ⟨v, rfl, HO.out, HB.out⟩
set_option maxRecDepth 100000 in
set_option maxHeartbeats 2000000 in
theorem Owned_any (full emp : Int) (G : Option Addr) (d : Nat) (hs : List Hf) (w : World) (hG : HandsAt w G hs) (hl : hs.length ≤ 1000) (hd : G = none → hs.length = 0 ∧ d = 0) :
  Calls Try.prog 18 #[.agg #[.int .i64 full, .int .i64 emp, .slice G hs.length d]] w fun e w' => ∃ G' d', e = .returned (.agg #[.int .i64 full, .int .i64 emp, .slice G' hs.length d']) ∧ OwnHands w' w.heap.size (.slice G' hs.length d') hs ∧ hs.length ≤ d' ∧ Below w.heap.size w w' := by
 have HG := Lib.hid hG
 clear hG
 go_enter Try.func18, Try.ntmps18
 go_wp2_with fail
 refine (DupHands_any G d hs _ (HG.out.up zg) hl hd).mono ?_
 rintro e w2 ⟨v, rfl, hown, hb2⟩
 have Hg2 := Lib.hid (Holds.up (zp4 : Holds _ (w.heap.size) 27 #[.int .i64 full, .int .i64 emp, .slice G hs.length d]) hb2)
 have Hr2 := Lib.hid (Holds.up (zp4 : Holds _ (w.heap.size + 1) 27 #[.int .i64 0, .int .i64 0, .slice none 0 0]) hb2)
 have HS2 : Hid (Below w.heap.size w w2) := Lib.hid (Below.trans zg (hb2.mono (by first | exact Nat.le_refl _ | omega | (simp; done) | (simp; omega))))
 have HB2 := HS2
 have hs2 := HB2.out.size
 have hst2 := HS2.out.size
 clear hb2
 obtain ⟨G', d', rfl, hgd, _⟩ := hown.at_
 have HO := Lib.hid hown
 clear hown
 have hrl := Hr2.out
 obtain ⟨kg0, kg1, kg2⟩ := Hg2.out.c3
 obtain ⟨zg0, zg1, zg2⟩ := Hg2.out.f3
 have lt_g : w.heap.size < w2.heap.size := Hg2.out.lt
 obtain ⟨kr0, kr1, kr2⟩ := Hr2.out.c3
 obtain ⟨zr0, zr1, zr2⟩ := Hr2.out.f3
 have lt_r : w.heap.size + 1 < w2.heap.size := Hr2.out.lt
 have lt1 : w.heap.size < w.heap.size + 1 + 1 := by omega
 have lt2 : w.heap.size + 1 < w.heap.size + 1 + 1 := by omega
 go_wp2_with fail
 refine ret_cell (t := 27) (cs := #[.int .i64 full, .int .i64 emp, .slice G' hs.length d']) rfl rfl zp4 Try.underlying27 rfl (by kernel_rfl) rfl ⟨G', d', rfl, ?_, hgd, HB2.out.trans zg⟩
 have ho := HO.out
 simp only [World.size_alloc] at ho
 exact row5_mono (row5_far (row5_far (row5_far (row5_far ho (p := ⟨w.heap.size, 2, none⟩) lt1 _) (p := ⟨w.heap.size + 1, 0, none⟩) lt2 _) (p := ⟨w.heap.size + 1, 1, none⟩) lt2 _) (p := ⟨w.heap.size + 1, 2, none⟩) lt2 _) (by omega)
theorem take_flat {α : Type} (f : α → List Value) (hf : ∀ x, (f x).length = 5) : ∀ (xs : List α) (k : Nat), (xs.flatMap f).take (k * 5) = (xs.take k).flatMap f := by
 intro xs
 induction xs with
 | nil => intro k; simp
 | cons a xs ih =>
  intro k
  cases k with
  | zero => simp
  | succ k =>
   rw [List.flatMap_cons, List.take_succ_cons, List.flatMap_cons, List.take_append, hf, List.take_of_length_le (by rw [hf]; omega), show (k + 1) * 5 - 5 = k * 5 from by omega, ih]
theorem drop_flat {α : Type} (f : α → List Value) (hf : ∀ x, (f x).length = 5) : ∀ (xs : List α) (k : Nat), (xs.flatMap f).drop (k * 5) = (xs.drop k).flatMap f := by
 intro xs
 induction xs with
 | nil => intro k; simp
 | cons a xs ih =>
  intro k
  cases k with
  | zero => simp
  | succ k =>
   rw [List.flatMap_cons, List.drop_succ_cons, List.drop_append, hf, List.drop_of_length_le (by rw [hf]; omega), List.nil_append, show (k + 1) * 5 - 5 = k * 5 from by omega, ih]
theorem set_flat {α : Type} (f : α → List Value) (hf : ∀ x, (f x).length = 5) (xs : List α) (k : Nat) (y : α) (hk : k < xs.length) : (xs.set k y).flatMap f = (xs.flatMap f).take (k * 5) ++ f y ++ (xs.flatMap f).drop ((k + 1) * 5) := by
 rw [take_flat f hf, drop_flat f hf, List.set_eq_take_append_cons_drop, if_pos hk, List.flatMap_append, List.flatMap_cons, List.append_assoc]
theorem own_store {w : World} {B g n e : Nat} {ds : List Hf} (h : OwnHands w B (.slice (some ⟨g, 0, none⟩) n e) ds) {k : Nat} (hk : k < ds.length) (y : Hf) :
  ∃ w', (storeVar 30 ⟨g, k * 5, none⟩ (.agg #[.int .i64 y.spot, .int .i64 y.g0, .int .i64 y.g1, .int .i64 y.g2, .int .i64 y.g3])).run Try.prog w = .ok () w' ∧ OwnHands w' B (.slice (some ⟨g, 0, none⟩) n e) (ds.set k y) ∧ w.grownBy w' (some g) := by
 obtain ⟨i0, hi, hz0, hz1, hz2⟩ := info_parts info_hand
 obtain ⟨hl, ⟨e0, _⟩ | ⟨g', cap, cur, ev, hB, hg, hn, hm, hsz, ht⟩⟩ := h
 ·cases e0
 ·injection ev with e1 e2 e3
  injection e1 with e1
  injection e1 with e1
  subst e1
  subst e2
  subst e3
  have hr := run_storeCells_at Try.prog g (k * 5) 30 y.cells 0 cur w hg (by show k * 5 + 0 + 5 ≤ cur.size; omega) (by intro v hv; simp only [Hf.cells, List.mem_cons, List.not_mem_nil, or_false] at hv; rcases hv with rfl | rfl | rfl | rfl | rfl <;> rfl)
  refine ⟨w.setRow g (cur.toList.take (k * 5 + 0) ++ y.cells ++ cur.toList.drop (k * 5 + 0 + y.cells.length)).toArray, (by simp only [Hf.cells] at hr; simp [storeVar, sizeOf, typeInfo, hi, hz1, Value.cells, hr, Hf.cells]), ?_, ⟨rfl, rfl, rfl, by simp, fun j _ hne => setRow_other w g j _ (fun e => hne (by rw [e]))⟩⟩
  have hs5 := flat_len Hf.cells (fun _ => rfl) (ds.set k y)
  refine ⟨hs5, .inr ⟨g, e, _, by rw [List.length_set], hB, setRow_heap w g cur _ _ _ hg, by rw [List.length_set]; exact hn, hm, ?_, ?_⟩⟩
  ·have : cur.toList.length = e * 5 := by simpa using hsz
   simp only [List.size_toArray, List.length_append, List.length_take, List.length_drop]
   show _ + 5 + _ = _
   have h5 : y.cells.length = 5 := rfl
   omega
  ·rw [List.length_set, set_flat Hf.cells (fun _ => rfl) ds k y hk, ← ht]
   have h5 : y.cells.length = 5 := rfl
   have hcl : cur.toList.length = e * 5 := by simpa using hsz
   simp only [Nat.add_zero, h5]
   rw [List.take_take, Nat.min_eq_left (by omega), List.drop_take, List.take_append, List.take_of_length_le (by simp only [List.length_append, List.length_take, h5]; omega)]
   simp only [List.length_append, List.length_take, h5]
   rw [Nat.min_eq_left (by omega), show (k + 1) * 5 = k * 5 + 5 from by omega]
theorem grown_below {w w' w'' : World} {r : Option Nat} (h : w.grownBy w' r) (hb : Below w'.heap.size w' w'') : w.grownBy w'' r :=
 ⟨hb.os.trans h.os, hb.tape.trans h.tape, hb.output.trans h.output, Nat.le_trans h.size hb.size, fun k hk hne => (hb.block k (Nat.lt_of_lt_of_le hk h.size)).trans (h.block k hk hne)⟩
theorem grown_trans {w w' w'' : World} {r : Option Nat} (h : w.grownBy w' r) (h2 : w'.grownBy w'' r) : w.grownBy w'' r :=
 ⟨h2.os.trans h.os, h2.tape.trans h.tape, h2.output.trans h.output, Nat.le_trans h.size h2.size, fun k hk hne => (h2.block k (Nat.lt_of_lt_of_le hk h.size) hne).trans (h.block k hk hne)⟩
theorem OwnInts.past {w w' : World} {B : Nat} {v : Value} {xs : List Int} {row : Option Nat} (h : OwnInts w B v xs) (g : w.grownBy w' row) (hr : ∀ k, row = some k → k < B) : OwnInts w' B v xs := by
 obtain ⟨hl, h | ⟨k, cap, cur, e, hB, hg, r⟩⟩ := h
 ·exact ⟨hl, .inl h⟩
 ·exact ⟨hl, .inr ⟨k, cap, cur, e, hB, (g.block k (Array.getElem?_eq_some_iff.1 hg).1 (fun e => by have := hr k e.symm; omega)).trans hg, r⟩⟩
theorem row_lt {w : World} {B n : Nat} {e : TypeId} {v : Value} {xs : List Value} (h : w.ownsRow B e 5 v n xs) : ∀ k, v.ownBlock = some k → k < w.heap.size := by
 obtain ⟨_, ⟨rfl, rfl⟩ | ⟨g, cap, cur, rfl, hB, hg, _⟩⟩ := h
 ·intro k hk; cases hk
 ·intro k hk; cases hk; exact (Array.getElem?_eq_some_iff.1 hg).1
theorem Holds.past {w w' : World} {b : Nat} {t : TypeId} {cs : Array Value} {row : Option Nat} (h : Holds w b t cs) (g : w.grownBy w' row) (hr : ∀ k, row = some k → k ≠ b) : Holds w' b t cs :=
 (g.block b h.lt (fun e => hr b e.symm rfl)).trans h
structure Placed (la : List Hf) (xs : List Int) (j : Nat) (ds : List Hf) : Prop where
 len : ds.length = la.length
 mem : ∀ x ∈ ds, x ∈ la
 at_ : ∀ (i k : Nat), i < j → xs[i]? = some (k : Int) → ds[k]? = la[i]?
theorem Placed.start (la : List Hf) (xs : List Int) : Placed la xs 0 la := ⟨rfl, fun _ h => h, fun i k h => by omega⟩
theorem Placed.next {la ds : List Hf} {xs : List Int} {j k : Nat} {y : Hf} (h : Placed la xs j ds) (s : Shuffled la.length xs) (hx : xs[j]? = some (k : Int)) (hy : la[j]? = some y) : Placed la xs (j + 1) (ds.set k y) := by
 have hk := s.ran _ (List.mem_of_getElem? hx)
 have hkl : k < ds.length := by rw [h.len]; omega
 refine ⟨by rw [List.length_set]; exact h.len, fun x hx' => ?_, fun i k' hi hx' => ?_⟩
 ·rcases List.mem_or_eq_of_mem_set hx' with hm | rfl
  ·exact h.mem x hm
  ·exact List.mem_of_getElem? hy
 ·by_cases he : i = j
  ·subst he
   rw [hx] at hx'
   have : k = k' := by have := Option.some.inj hx'; omega
   subst this
   rw [List.getElem?_set_self hkl, hy]
  ·have hne : k ≠ k' := by
    intro e
    subst e
    have h1 := List.getElem?_eq_some_iff.1 hx
    have h2 := List.getElem?_eq_some_iff.1 hx'
    have := List.pairwise_iff_getElem.1 s.nodup i j h2.1 h1.1 (by omega)
    rw [h1.2, h2.2] at this
    exact this rfl
   rw [List.getElem?_set_ne hne]
   exact h.at_ i k' (by omega) hx'
theorem Placed.done {la ds : List Hf} {xs : List Int} (h : Placed la xs la.length ds) (s : Shuffled la.length xs) : ∀ x, x ∈ la ↔ x ∈ ds := by
 intro x
 refine ⟨fun hx => ?_, h.mem x⟩
 obtain ⟨i, hi⟩ := List.getElem?_of_mem hx
 have hil := (List.getElem?_eq_some_iff.1 hi).1
 obtain ⟨z, hz⟩ : ∃ z, xs[i]? = some z := ⟨_, List.getElem?_eq_getElem (by rw [s.len]; exact hil)⟩
 have hr := s.ran z (List.mem_of_getElem? hz)
 have := h.at_ i z.toNat hil (by rw [hz]; congr 1; omega)
 rw [hi] at this
 exact List.mem_of_getElem? this
def TwRel (w9 : World) (n0 : Nat) (D : Option Addr) (e : Nat) (la : List Hf) (xs : List Int) (v64 : Value) (wz : World) : Prop :=
 ∃ (j : Nat) (ds : List Hf), v64 = .int .i64 (j : Int) ∧ j ≤ la.length ∧ Placed la xs j ds ∧ OwnHands wz n0 (.slice D la.length e) ds ∧ w9.grownBy wz (Value.slice D la.length e).ownBlock
theorem eqlIn_spans (n : Nat) (a b : Bx) (w : World) :
    (Op.equalIn (n + 3) 76 (.agg #[.int .i64 a.l0, .int .i64 a.h0, .int .i64 a.l1, .int .i64 a.h1, .int .i64 a.l2, .int .i64 a.h2, .int .i64 a.l3, .int .i64 a.h3]) (.agg #[.int .i64 b.l0, .int .i64 b.h0, .int .i64 b.l1, .int .i64 b.h1, .int .i64 b.l2, .int .i64 b.h2, .int .i64 b.l3, .int .i64 b.h3])).run Try.prog w
   = .ok (a.eqb b) w := by
  have hu : Try.prog.underlying 76 = some (.array 4 60) := by kernel_rfl
  have hi : (sizeOf 60).run Try.prog w = .ok 2 w := by kernel_rfl
  have p : ∀ (cs : Array Value) (i : Nat) (w : World), (part 60 cs i).run Try.prog w = .ok (.agg (cs.extract i (i + 2))) w := by
    intro cs i w
    kernel_rfl
  have e : a.eqb b = ((a.l0 == b.l0 && a.h0 == b.h0) && ((a.l1 == b.l1 && a.h1 == b.h1) && ((a.l2 == b.l2 && a.h2 == b.h2) && (a.l3 == b.l3 && a.h3 == b.h3)))) := by
    simp [Bx.eqb, Bool.and_assoc]
  rw [e]
  unfold Op.equalIn
  cases h0 : (a.l0 == b.l0 && a.h0 == b.h0) <;> cases h1 : (a.l1 == b.l1 && a.h1 == b.h1) <;> cases h2 : (a.l2 == b.l2 && a.h2 == b.h2) <;> cases h3 : (a.l3 == b.l3 && a.h3 == b.h3) <;>
    simp [Sem.run_bind, run_underlying hu, hi, p, show List.range' 0 4 = [0, 1, 2, 3] from rfl, eqlIn_span, h0, h1, h2, h3]
theorem run_neq_same (t : TypeId) (xs : Array Value) (w : World) (h : (Op.equalIn 10000 t (.agg xs) (.agg xs)).run Try.prog w = .ok true w) : (binOp .neq t (.agg xs) (.agg xs)).run Try.prog w = .ok (.bool false) w := by
 have he : (binOp .eql t (.agg xs) (.agg xs)).run Try.prog w = .ok (.bool true) w := by rw [run_eql_struct, h]; rfl
 simp only [binOp, Sem.run_bind] at he ⊢
 generalize (Op.equal t (.agg xs) (.agg xs)).run Try.prog w = r at he ⊢
 cases r <;> simp_all [Result.andThen]
theorem neq_spans (a : Bx) (w : World) : (binOp .neq 76 (.agg #[.int .i64 a.l0, .int .i64 a.h0, .int .i64 a.l1, .int .i64 a.h1, .int .i64 a.l2, .int .i64 a.h2, .int .i64 a.l3, .int .i64 a.h3]) (.agg #[.int .i64 a.l0, .int .i64 a.h0, .int .i64 a.l1, .int .i64 a.h1, .int .i64 a.l2, .int .i64 a.h2, .int .i64 a.l3, .int .i64 a.h3])).run Try.prog w = .ok (.bool false) w :=
 run_neq_same _ _ w ((eqlIn_spans 9997 a a w).trans (by rw [Bx.eqb_self]))
theorem neq_zero (w : World) : (binOp .neq 76 (.agg #[.int .i64 0, .int .i64 0, .int .i64 0, .int .i64 0, .int .i64 0, .int .i64 0, .int .i64 0, .int .i64 0]) (.agg #[.int .i64 0, .int .i64 0, .int .i64 0, .int .i64 0, .int .i64 0, .int .i64 0, .int .i64 0, .int .i64 0])).run Try.prog w = .ok (.bool false) w := neq_spans ⟨0, 0, 0, 0, 0, 0, 0, 0⟩ w
theorem mem_snoc_same {la ds : List Hf} (h : ∀ x, x ∈ la ↔ x ∈ ds) {y : Hf} (hy : y ∈ la) : ∀ x, x ∈ la ↔ x ∈ ds ++ [y] := by
 intro x
 rw [List.mem_append, List.mem_singleton, ← h x]
 exact ⟨.inl, fun hx => hx.elim id (fun e => e ▸ hy)⟩
theorem topped_same {miss : Int} {hs ds : List Hf} (hn : ∀ h ∈ hs, 0 < h.sum) (hn' : ∀ h ∈ ds, 0 < h.sum) (hm : ∀ x, x ∈ hs ↔ x ∈ ds) : toppedOf miss ds = toppedOf miss hs := by
 unfold toppedOf spotBx allBx
 rw [(bounds_same hn hn' hm).1, spot_same hn hn' hm 0, spot_same hn hn' hm 1, spot_same hn hn' hm 2]
theorem hold_low {w w' : World} {n b : Nat} {t : TypeId} {cs : Array Value} (h : Holds w b t cs) (hb : Below n w w') (hn : b < n) : Holds w' b t cs := (hb.block b hn).trans h
theorem hands_low {w w' : World} {n B : Nat} {v : Value} {hs : List Hf} (h : OwnHands w B v hs) (hb : Below n w w') (hn : ∀ k, v.ownBlock = some k → k < n) : OwnHands w' B v hs := by
 obtain ⟨hl, h | ⟨g, cap, cur, ev, hB, hg, r⟩⟩ := h
 ·exact ⟨hl, .inl h⟩
 ·exact ⟨hl, .inr ⟨g, cap, cur, ev, hB, (hb.block g (hn g (by rw [ev]; rfl))).trans hg, r⟩⟩
theorem own_some {w : World} {B n e : Nat} {D : Option Addr} {ds : List Hf} (h : OwnHands w B (.slice D n e) ds) (h0 : 0 < ds.length) : ∃ g, D = some ⟨g, 0, none⟩ := by
 obtain ⟨hl, ⟨_, h⟩ | ⟨g, cap, cur, ev, _⟩⟩ := h
 ·omega
 ·injection ev with e1
  exact ⟨g, e1⟩
theorem hands_base {w : World} {E o : Nat} {hs : List Hf} (h : HandsAt w (some ⟨E, o, none⟩) hs) (h0 : 0 < hs.length) : E < w.heap.size := by
 obtain ⟨B, o', e, hc⟩ := h h0
 cases e
 exact cell_lt (hc 0 hs[0] (List.getElem?_eq_getElem h0)).1
theorem cell_past {w w' : World} {E k : Nat} {v : Value} {g : Nat} (h : w.cell? ⟨E, k, none⟩ = some v) (gr : w.grownBy w' (some g)) (hne : E ≠ g) : w'.cell? ⟨E, k, none⟩ = some v :=
 (World.cell?_of_block (w := w) (gr.block E (cell_lt h) (fun e => hne (by cases e; rfl)))).trans h
theorem row_over2 {w : World} {S n B : Nat} {t : TypeId} {a b : Value} {A2 g : Option Addr} {m e d2 : Nat} {xs : List Value} (h : Holds w S t #[a, b, .slice A2 (m + 1) d2]) (h2 : Holds w S t #[a, b, .slice g n e]) (r : w.ownsRow B 30 5 (.slice g n e) m xs) (hh : True = True) : False := by
 have := h.symm.trans h2
 simp only [Option.some.injEq, Obj.cells.injEq] at this
 have h3 := this.1
 simp only [Array.mk.injEq, List.cons.injEq, Value.slice.injEq] at h3
 obtain ⟨_, ⟨e1, _⟩ | ⟨g', cap, cur, ev, _⟩⟩ := r
 ·injection e1 with _ e1; omega
 ·injection ev with _ e1; omega
theorem can_len (b : Bx) (gs : List Gr) : (canOf b gs).length ≤ gs.length + 1 := by
 cases h : (shownBx b gs none).isSome with
 | true => rw [canOf_yes h, List.length_append]; have := canTo_len b gs gs.length; simp; omega
 | false => rw [canOf_no h]; have := canTo_len b gs gs.length; omega
end Go.Proofs.Ytdpgfaikmahmpaa
