
import Derived.Test.YtdpgfaikmahmpaaCAA
import Derived.Test.YtdpgfaikmahmpaaCAC
import Derived.Test.YtdpgfaikmahmpaaCBR
import Derived.Test.YtdpgfaikmahmpaaCBS
import Derived.Test.YtdpgfaikmahmpaaCBT
import Derived.Test.YtdpgfaikmahmpaaCBU
set_option linter.unusedSimpArgs false
set_option linter.unusedVariables false
namespace Go.Proofs.Ytdpgfaikmahmpaa
open Go.RowKit
theorem zp9 {p : Prop} (h : p := by (repeat first | (with_reducible first | assumption | apply Holds.set4 | apply Holds.putL | ((refine Holds.new' _ _ ?_); (simp; done)) | refine Holds.alloc ?_ _ | refine Holds.drew ?_ | refine Holds.far ?_ (by simp only [ne_eq]; omega) _) | rfl)) : p := h
set_option maxRecDepth 100000 in
set_option maxHeartbeats 4000000 in
theorem Mixture_clash (err miss full empty : Int) (G A : Option Addr) (d c : Nat) (gs : List Gr) (hs : List Hf) (w : World) (hG : GradesAt w G gs) (hgl : gs.length ≤ 1000) (hA : HandsAt w A hs) (hl : hs.length ≤ 1000) (he : bothErr err miss gs full empty hs = 0) (hx : (boundsOf miss (fun _ => true) hs).empty = true) :
  Calls Try.prog 44 #[.agg #[.int .i64 err, .int .i64 miss, .slice G gs.length d], .agg #[.int .i64 full, .int .i64 empty, .slice A hs.length c]] w fun e w' => e = .returned (.tuple #[.agg #[.int .i64 0, .int .i64 0, .int .i64 0, .int .i64 0], .int .i64 7]) ∧ Below w.heap.size w w' := by
 have HA := Lib.hid hA
 have HG := Lib.hid hG
 have HE := Lib.hid he
 have HX := Lib.hid hx
 clear hA hG he hx
 go_enter Try.func44, Try.ntmps44
 go_wp2_with fail
 refine (arriveFitting_clash err miss full empty G A d c gs hs _ (HG.out.up zg) hgl (HA.out.up zg) hl HE.out HX.out).mono ?_
 rintro e w2 ⟨rfl, hb2⟩
 have Hr2 := Lib.hid (Holds.up (zp9 : Holds _ (w.heap.size + 1 + 1) 28 #[.int .i64 0, .int .i64 0, .int .i64 0, .int .i64 0]) hb2)
 have HB2 : Hid (Below w.heap.size w w2) := Lib.hid (Below.trans zg (hb2.mono (by first | omega | (simp; done) | (simp; omega))))
 have lr := Hr2.out.lt
 have lr1 : w.heap.size + 1 + 1 < w2.heap.size + 1 := by omega
 have lr2 : w.heap.size + 1 < w2.heap.size := by omega
 have lr3 : w.heap.size < w2.heap.size := by omega
 obtain ⟨v0, v1, v2, v3⟩ := Hr2.out.c4
 obtain ⟨z0, z1, z2, z3⟩ := Hr2.out.f4
 clear hb2
 go_wp2_with fail
 all_goals exact ret_cell2 (t := 28) rfl rfl rfl (by have h := Hr2.out; exact zp9 : Holds _ (w.heap.size + 1 + 1) 28 #[.int .i64 0, .int .i64 0, .int .i64 0, .int .i64 0]) Try.underlying28 rfl (by kernel_rfl) rfl ⟨rfl, HB2.out.trans zg⟩
def apTo (miss : Int) (la : List Hf) (k : Nat) : Bool := (List.range k).all (fun s => !(spotBx miss la s).empty)
theorem apTo_succ (miss : Int) (la : List Hf) (k : Nat) : apTo miss la (k + 1) = (apTo miss la k && !(spotBx miss la k).empty) := by
 unfold apTo
 rw [List.range_succ, List.all_append]
 simp
theorem topped_ap {miss : Int} {la : List Hf} (h : (boundsOf miss (fun _ => true) la).empty = true) : toppedOf miss la = apTo miss la 3 := by
 rw [apTo_succ, apTo_succ, apTo_succ]
 unfold toppedOf allBx
 rw [h]
 simp [apTo, Bool.and_assoc]
def spotP (la : List Hf) (k : Nat) (i : Nat) : Bool := ((la[i]?).map Hf.spot).getD 0 == (k : Int)
theorem idxs_yes {p : Nat → Bool} {i : Nat} (h : p i = true) : idxs p (i + 1) = idxs p i ++ [(i : Int)] := by
 simp [idxs, List.range_succ, h]
theorem idxs_no {p : Nat → Bool} {i : Nat} (h : p i = false) : idxs p (i + 1) = idxs p i := by
 simp [idxs, List.range_succ, h]
theorem idxs_len (p : Nat → Bool) (n : Nat) : (idxs p n).length ≤ n := (idxs_rising p n).len
theorem cell_lt {w : World} {E k : Nat} {v : Value} (h : w.cell? ⟨E, k, none⟩ = some v) : E < w.heap.size := by
 unfold World.cell? at h
 split at h
 ·rename_i hg
  exact (Array.getElem?_eq_some_iff.1 hg).1
 ·cases h
theorem row_ge {w : World} {B : Nat} {v : Value} {xs : List Int} (h : OwnInts w B v xs) {k : Nat} (hk : v.ownBlock = some k) : B ≤ k := own_ge h hk
theorem rising_twice {n : Nat} {x : List Int} (h : Rising n x) : twice x = false := by
 unfold twice
 simp [h.nodup]
theorem shuf_twice {n : Nat} {x : List Int} (h : Shuffled n x) : twice x = false := by
 unfold twice
 simp [h.nodup]
theorem shuf_in {n : Nat} {x : List Int} (h : Shuffled n x) : ∀ y ∈ x, within y 0 ((n : Int) - 1) = true := fun y hy => by
 have := h.ran y hy
 simp only [within, Bool.and_eq_true, decide_eq_true_eq]
 omega
theorem shuf_agree {miss : Int} {la : List Hf} {x : List Int} (hn : ∀ h ∈ la, 0 < h.sum) (h : Shuffled la.length x) : (boundsOf miss (fun i => x.contains (i : Int)) la).empty = (boundsOf miss (fun _ => true) la).empty :=
 empty_same hn hn (fun k y hk _ => ⟨k, hk, rfl⟩) (fun k y hk _ => ⟨k, hk, List.contains_iff_mem.2 (h.all k (List.getElem?_eq_some_iff.1 hk).1)⟩)
end Go.Proofs.Ytdpgfaikmahmpaa
