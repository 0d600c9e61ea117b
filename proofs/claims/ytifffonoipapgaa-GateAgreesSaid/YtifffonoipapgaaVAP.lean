
import Derived.Test.YtifffonoipapgaaVAA
import Derived.Test.YtifffonoipapgaaVAC
import Derived.Test.YtifffonoipapgaaVAM
import Derived.Test.YtifffonoipapgaaVAO
set_option linter.unusedSimpArgs false
set_option linter.unusedVariables false
namespace Go.Proofs.Ytifffonoipapgaa
open Go.RowKit
theorem cf_listed (args : Array Value) (w : World) : (callFunc 140 args).run Try.prog w = .ok (.enter 140 args) w := by kernel_rfl
theorem cf_spot (args : Array Value) (w : World) : (callFunc 118 args).run Try.prog w = .ok (.enter 118 args) w := by kernel_rfl
theorem listed1_any (i : Int) (B : Nat) (A : Option Addr) (c : Nat) (xs : List Int) (w : World) (hc : w.cell? ⟨B, 0, none⟩ = some (.slice A xs.length c)) (hA : IntsAt w A xs) (hl : xs.length ≤ 1000000) :
  Calls Try.prog 140 #[.int .i64 i, .pointer (some ⟨B, 0, none⟩)] w fun e w' => e = .returned (.bool (xs.contains i)) ∧ Below w.heap.size w w' := by
 have HA := Lib.hid hA
 clear hA
 go_enter Try.func140, Try.ntmps140
 go_wp2_with (go_at_call 57; refine (Contains_any A c xs i _ HA.out hl).mono ?_; rintro e w' ⟨rfl, rfl⟩)
 go_ret
 exact ⟨by simp, Below.refl _ _⟩
theorem counts_listed (B : Nat) (A : Option Addr) (c n : Nat) (xs : List Int) (w : World) (hc : w.cell? ⟨B, 0, none⟩ = some (.slice A xs.length c)) (hA : IntsAt w A xs) (hl : xs.length ≤ 1000000) :
  CountsAt w 140 #[] #[.pointer (some ⟨B, 0, none⟩)] (fun i => xs.contains (i : Int)) n := fun i W _ hB =>
 listed1_any i B A c xs W (up_cell hB hc) (hA.up hB) hl
theorem listed_any (A : Option Addr) (c n : Nat) (w : World) :
  Calls Try.prog 116 #[.slice A n c] w fun e w' => e = .returned (.func (.func 140) #[] #[.pointer (some ⟨w.heap.size, 0, none⟩)]) ∧ w' = w.alloc (.cells #[.slice A n c] 87) := by
 have hmf : ∀ (fn : Fn) (first cap : Array Value) (w : World), (Instr.makeFunc fn first cap).run Try.prog w = .ok (.func fn first cap) w := fun _ _ _ _ => rfl
 go_enter Try.func116, Try.ntmps116
 go_wp2_with fail
 go_ret
 exact ⟨rfl, rfl⟩
set_option maxRecDepth 100000 in
set_option maxHeartbeats 1000000 in
theorem agree_any (full empty err miss : Int) (A : Option Addr) (c : Nat) (hs : List Hf) (gs : Value) (cf0 : Value) (F : FuncId) (first cap : Array Value) (p : Nat → Bool) (w : World) (hA : HandsAt w A hs) (hl : hs.length ≤ 1000)
  (m0 : 0 ≤ miss) (m1 : miss ≤ 20) (ht : ∀ x ∈ hs, x.taken = true) (he : ∀ x ∈ hs, x.enough = true)
  (hcf : ∀ (args : Array Value) (w : World), (callFunc F args).run Try.prog w = .ok (.enter F args) w) (hc : CountsAt w F first cap p hs.length) :
  Calls Try.prog 115 #[.agg #[.int .i64 full, .int .i64 empty, .slice A hs.length c, .int .i64 err, .int .i64 miss, gs, cf0], .func (.func F) first cap] w fun e w' => e = .returned (.bool (!(boundsOf miss p hs).empty)) ∧ Below w.heap.size w w' := by
 have HA := Lib.hid hA
 have HT := Lib.hid ht
 have HE := Lib.hid he
 have HC := Lib.hid hc
 have HF := Lib.hid hcf
 clear hA ht he hc hcf
 cases hq : (boundsOf miss p hs).empty
 all_goals
  have HQ := Lib.hid hq
  clear hq
  go_enter Try.func115, Try.ntmps115
  go_wp2_with (first
   | (go_at_call 104; refine (bounds_any full empty err miss A c hs gs F first cap p _ (HA.out.up zg) hl m0 m1 HT.out HE.out HF.out (HC.out.up zg)).mono ?_; rintro e w2 ⟨rfl, hb2⟩; have hB2 : Below w.heap.size w w2 := Below.trans zg (hb2.mono (by first | omega | (simp; done) | (simp; omega))))
   | (go_at_call 109; refine (empty_any _ _).mono ?_; rw [HQ.out]; rintro e w3 ⟨rfl, hb3⟩))
  go_ret
  exact ⟨rfl, hB2.trans (hb3.mono hB2.size)⟩
set_option maxRecDepth 100000 in
theorem topped1_any (i : Nat) (Bc Bs B o n c : Nat) (s spot : Int) (w : World) (hi : i < n) (hn : n ≤ 1000) (h1 : w.cell? ⟨Bc, 2, none⟩ = some (.slice (some ⟨B, o, none⟩) n c)) (h2 : w.cell? ⟨Bs, 0, none⟩ = some (.int .i64 spot)) (h3 : w.cell? ⟨B, o + i * 5, none⟩ = some (.int .i64 s)) :
  Calls Try.prog 118 #[.int .i64 (i : Int), .pointer (some ⟨Bc, 0, none⟩), .pointer (some ⟨Bs, 0, none⟩)] w fun e w' => e = .returned (.bool (s == spot)) ∧ Below w.heap.size w w' := by
 go_enter Try.func118, Try.ntmps118
 go_wp2_with fail
 rename_i Kc hKc
 refine wp_region_parts (by kernel_rfl) 9 [5, 6, 7, 8, 9, 10, 11, 12, 13] (fun t v w' => match t with
  | 5 => v = .pointer (some ⟨Bc, 0, none⟩)
  | 6 => v = .pointer (some ⟨Bc, 2, none⟩)
  | 7 => v = .slice (some ⟨B, o, none⟩) n c
  | 8 => v = .int .i64 (i : Int)
  | 9 => v = .pointer (some ⟨B, o + i * 5, none⟩)
  | 10 => v = .pointer (some ⟨B, o + i * 5, none⟩)
  | 11 => v = .int .i64 s
  | 12 => v = .int .i64 spot
  | 13 => v = .bool (s == spot)
  | _ => True) (by kernel_rfl) ?_ ?_ ?_
 ·intro t v w1 w2 hb' h
  revert h
  split <;> intro h <;> first
   | exact h
 ·refine ⟨?_, ?_, ?_, ?_, ?_, ?_, ?_, ?_, ?_, trivial⟩
  ·intro x w1 hb1 hx K hK
   clear hx hKc
   have k1 : w1.cell? ⟨Bc, 2, none⟩ = some (.slice (some ⟨B, o, none⟩) n c) := up_cell hb1 h1
   have k2 : w1.cell? ⟨Bs, 0, none⟩ = some (.int .i64 spot) := up_cell hb1 h2
   have k3 : w1.cell? ⟨B, o + i * 5, none⟩ = some (.int .i64 s) := up_cell hb1 h3
   simp only [frameOf, fill, sg, Nat.reduceBEq, if_true, if_false, Nat.reduceAdd, Nat.reduceEqDiff] at hK ⊢
   go_wp2_with (fail)
   exact hK _ _ (Below.refl _ _) rfl
  ·intro x w1 hb1 hx K hK
   have e5 : x 5 = .pointer (some ⟨Bc, 0, none⟩) := hx 5 (by rfl)
   clear hx hKc
   have k1 : w1.cell? ⟨Bc, 2, none⟩ = some (.slice (some ⟨B, o, none⟩) n c) := up_cell hb1 h1
   have k2 : w1.cell? ⟨Bs, 0, none⟩ = some (.int .i64 spot) := up_cell hb1 h2
   have k3 : w1.cell? ⟨B, o + i * 5, none⟩ = some (.int .i64 s) := up_cell hb1 h3
   simp only [frameOf, fill, sg, Nat.reduceBEq, if_true, if_false, Nat.reduceAdd, Nat.reduceEqDiff] at hK ⊢
   simp only [e5] at hK ⊢
   clear e5
   go_wp2_with (fail)
   exact hK _ _ (Below.refl _ _) rfl
  ·intro x w1 hb1 hx K hK
   have e6 : x 6 = .pointer (some ⟨Bc, 2, none⟩) := hx 6 (by rfl)
   clear hx hKc
   have k1 : w1.cell? ⟨Bc, 2, none⟩ = some (.slice (some ⟨B, o, none⟩) n c) := up_cell hb1 h1
   have k2 : w1.cell? ⟨Bs, 0, none⟩ = some (.int .i64 spot) := up_cell hb1 h2
   have k3 : w1.cell? ⟨B, o + i * 5, none⟩ = some (.int .i64 s) := up_cell hb1 h3
   simp only [frameOf, fill, sg, Nat.reduceBEq, if_true, if_false, Nat.reduceAdd, Nat.reduceEqDiff] at hK ⊢
   simp only [e6] at hK ⊢
   clear e6
   go_wp2_with (fail)
   exact hK _ _ (Below.refl _ _) rfl
  ·intro x w1 hb1 hx K hK
   clear hx hKc
   have k1 : w1.cell? ⟨Bc, 2, none⟩ = some (.slice (some ⟨B, o, none⟩) n c) := up_cell hb1 h1
   have k2 : w1.cell? ⟨Bs, 0, none⟩ = some (.int .i64 spot) := up_cell hb1 h2
   have k3 : w1.cell? ⟨B, o + i * 5, none⟩ = some (.int .i64 s) := up_cell hb1 h3
   simp only [frameOf, fill, sg, Nat.reduceBEq, if_true, if_false, Nat.reduceAdd, Nat.reduceEqDiff] at hK ⊢
   go_wp2_with (fail)
   exact hK _ _ (Below.refl _ _) rfl
  ·intro x w1 hb1 hx K hK
   have e7 : x 7 = .slice (some ⟨B, o, none⟩) n c := hx 7 (by rfl)
   have e8 : x 8 = .int .i64 (i : Int) := hx 8 (by rfl)
   clear hx hKc
   have k1 : w1.cell? ⟨Bc, 2, none⟩ = some (.slice (some ⟨B, o, none⟩) n c) := up_cell hb1 h1
   have k2 : w1.cell? ⟨Bs, 0, none⟩ = some (.int .i64 spot) := up_cell hb1 h2
   have k3 : w1.cell? ⟨B, o + i * 5, none⟩ = some (.int .i64 s) := up_cell hb1 h3
   simp only [frameOf, fill, sg, Nat.reduceBEq, if_true, if_false, Nat.reduceAdd, Nat.reduceEqDiff] at hK ⊢
   simp only [e7, e8] at hK ⊢
   clear e7 e8
   go_wp2_with (fail)
   exact hK _ _ (Below.refl _ _) rfl
  ·intro x w1 hb1 hx K hK
   have e9 : x 9 = .pointer (some ⟨B, o + i * 5, none⟩) := hx 9 (by rfl)
   clear hx hKc
   have k1 : w1.cell? ⟨Bc, 2, none⟩ = some (.slice (some ⟨B, o, none⟩) n c) := up_cell hb1 h1
   have k2 : w1.cell? ⟨Bs, 0, none⟩ = some (.int .i64 spot) := up_cell hb1 h2
   have k3 : w1.cell? ⟨B, o + i * 5, none⟩ = some (.int .i64 s) := up_cell hb1 h3
   simp only [frameOf, fill, sg, Nat.reduceBEq, if_true, if_false, Nat.reduceAdd, Nat.reduceEqDiff] at hK ⊢
   simp only [e9] at hK ⊢
   clear e9
   go_wp2_with (fail)
   exact hK _ _ (Below.refl _ _) rfl
  ·intro x w1 hb1 hx K hK
   have e10 : x 10 = .pointer (some ⟨B, o + i * 5, none⟩) := hx 10 (by rfl)
   clear hx hKc
   have k1 : w1.cell? ⟨Bc, 2, none⟩ = some (.slice (some ⟨B, o, none⟩) n c) := up_cell hb1 h1
   have k2 : w1.cell? ⟨Bs, 0, none⟩ = some (.int .i64 spot) := up_cell hb1 h2
   have k3 : w1.cell? ⟨B, o + i * 5, none⟩ = some (.int .i64 s) := up_cell hb1 h3
   simp only [frameOf, fill, sg, Nat.reduceBEq, if_true, if_false, Nat.reduceAdd, Nat.reduceEqDiff] at hK ⊢
   simp only [e10] at hK ⊢
   clear e10
   go_wp2_with (fail)
   exact hK _ _ (Below.refl _ _) rfl
  ·intro x w1 hb1 hx K hK
   clear hx hKc
   have k1 : w1.cell? ⟨Bc, 2, none⟩ = some (.slice (some ⟨B, o, none⟩) n c) := up_cell hb1 h1
   have k2 : w1.cell? ⟨Bs, 0, none⟩ = some (.int .i64 spot) := up_cell hb1 h2
   have k3 : w1.cell? ⟨B, o + i * 5, none⟩ = some (.int .i64 s) := up_cell hb1 h3
   simp only [frameOf, fill, sg, Nat.reduceBEq, if_true, if_false, Nat.reduceAdd, Nat.reduceEqDiff] at hK ⊢
   go_wp2_with (fail)
   exact hK _ _ (Below.refl _ _) rfl
  ·intro x w1 hb1 hx K hK
   have e11 : x 11 = .int .i64 s := hx 11 (by rfl)
   have e12 : x 12 = .int .i64 spot := hx 12 (by rfl)
   clear hx hKc
   have k1 : w1.cell? ⟨Bc, 2, none⟩ = some (.slice (some ⟨B, o, none⟩) n c) := up_cell hb1 h1
   have k2 : w1.cell? ⟨Bs, 0, none⟩ = some (.int .i64 spot) := up_cell hb1 h2
   have k3 : w1.cell? ⟨B, o + i * 5, none⟩ = some (.int .i64 s) := up_cell hb1 h3
   simp only [frameOf, fill, sg, Nat.reduceBEq, if_true, if_false, Nat.reduceAdd, Nat.reduceEqDiff] at hK ⊢
   simp only [e11, e12] at hK ⊢
   clear e11 e12
   go_wp2_with (fail)
   exact hK _ _ (Below.refl _ _) rfl
 ·intro x w1 hb1 hx
  have e5 : x 5 = .pointer (some ⟨Bc, 0, none⟩) := hx 5 (by decide)
  have e6 : x 6 = .pointer (some ⟨Bc, 2, none⟩) := hx 6 (by decide)
  have e7 : x 7 = .slice (some ⟨B, o, none⟩) n c := hx 7 (by decide)
  have e8 : x 8 = .int .i64 (i : Int) := hx 8 (by decide)
  have e9 : x 9 = .pointer (some ⟨B, o + i * 5, none⟩) := hx 9 (by decide)
  have e10 : x 10 = .pointer (some ⟨B, o + i * 5, none⟩) := hx 10 (by decide)
  have e11 : x 11 = .int .i64 s := hx 11 (by decide)
  have e12 : x 12 = .int .i64 spot := hx 12 (by decide)
  have e13 : x 13 = .bool (s == spot) := hx 13 (by decide)
  clear hx
  have k1 : w1.cell? ⟨Bc, 2, none⟩ = some (.slice (some ⟨B, o, none⟩) n c) := up_cell hb1 h1
  have k2 : w1.cell? ⟨Bs, 0, none⟩ = some (.int .i64 spot) := up_cell hb1 h2
  have k3 : w1.cell? ⟨B, o + i * 5, none⟩ = some (.int .i64 s) := up_cell hb1 h3
  simp only [frameOf, fill, List.contains_cons, List.contains_nil, Nat.reduceBEq, Bool.or_false, Bool.false_or, Bool.or_true, Bool.true_or, if_true, if_false, Bool.false_eq_true, Nat.reduceAdd, Nat.zero_add]
  simp only [e5, e6, e7, e8, e9, e10, e11, e12, e13]
  clear e5 e6 e7 e8 e9 e10 e11 e12 e13
  go_wp2_with fail
  go_ret
  exact ⟨rfl, hb1⟩
theorem counts_spot (Bc Bs : Nat) (A : Option Addr) (c : Nat) (hs : List Hf) (spot : Int) (w : World) (hn : hs.length ≤ 1000) (h1 : w.cell? ⟨Bc, 2, none⟩ = some (.slice A hs.length c)) (h2 : w.cell? ⟨Bs, 0, none⟩ = some (.int .i64 spot)) (hA : HandsAt w A hs) :
  CountsAt w 118 #[] #[.pointer (some ⟨Bc, 0, none⟩), .pointer (some ⟨Bs, 0, none⟩)] (fun i => ((hs[i]?).map Hf.spot).getD 0 == spot) hs.length := fun i W hi hB => by
 obtain ⟨B, o, rfl, hc⟩ := (hA.up hB) (by omega)
 obtain ⟨c0, _⟩ := hc i _ (List.getElem?_eq_getElem hi)
 have := topped1_any i Bc Bs B o hs.length c hs[i].spot spot W hi hn (up_cell hB h1) (up_cell hB h2) c0
 simpa [List.getElem?_eq_getElem hi] using this
def spotBx (miss : Int) (hs : List Hf) (s : Int) : Bx := boundsOf miss (fun i => ((hs[i]?).map Hf.spot).getD 0 == s) hs
def allBx (miss : Int) (hs : List Hf) : Bx := boundsOf miss (fun _ => true) hs
def toppedOf (miss : Int) (hs : List Hf) : Bool := !(spotBx miss hs 0).empty && (!(spotBx miss hs 1).empty && (!(spotBx miss hs 2).empty && (allBx miss hs).empty))
def SpotsTo : Nat → Int → List Hf → Prop
 | 1, m, hs => (spotBx m hs 0).empty = false
 | 2, m, hs => (spotBx m hs 0).empty = false ∧ (spotBx m hs 1).empty = false
 | 3, m, hs => (spotBx m hs 0).empty = false ∧ (spotBx m hs 1).empty = false ∧ (spotBx m hs 2).empty = false
 | _, _, _ => True
set_option maxRecDepth 100000 in
set_option maxHeartbeats 2000000 in
theorem Topped_err (err miss full empty : Int) (G A : Option Addr) (d c : Nat) (gs : List Gr) (hs : List Hf) (w : World) (hG : GradesAt w G gs) (hgl : gs.length ≤ 1000) (hA : HandsAt w A hs) (hl : hs.length ≤ 1000) (he : bothErr err miss gs full empty hs ≠ 0) :
  Calls Try.prog 53 #[.agg #[.int .i64 err, .int .i64 miss, .slice G gs.length d], .agg #[.int .i64 full, .int .i64 empty, .slice A hs.length c]] w fun e w' => e = .returned (.tuple #[.bool false, .int .i64 (bothErr err miss gs full empty hs)]) ∧ Below w.heap.size w w' := by
 have HA := Lib.hid hA
 have HG := Lib.hid hG
 clear hA hG
 have hq : (bothErr err miss gs full empty hs != 0) = true := by simpa using he
 have HE := Lib.hid he
 clear he
 go_enter Try.func53, Try.ntmps53
 go_wp2_with (go_at_call 97; refine (arrive_err err miss full empty G A d c gs hs _ (HG.out.up zg) hgl (HA.out.up zg) hl HE.out).mono ?_; rintro e w2 ⟨rfl, hb2⟩; have hB2 : Below w.heap.size w w2 := Below.trans zg (hb2.mono (by first | omega | (simp; done) | (simp; omega))); have hs2 := hb2.size; simp only [World.size_alloc] at hs2)
 go_ret2
 exact ⟨rfl, zg⟩
set_option maxRecDepth 100000 in
set_option maxHeartbeats 2000000 in
theorem Topped_ok (err miss full empty : Int) (G A : Option Addr) (d c : Nat) (gs : List Gr) (hs : List Hf) (w : World) (hG : GradesAt w G gs) (hgl : gs.length ≤ 1000) (hA : HandsAt w A hs) (hl : hs.length ≤ 1000) (he : bothErr err miss gs full empty hs = 0) :
  Calls Try.prog 53 #[.agg #[.int .i64 err, .int .i64 miss, .slice G gs.length d], .agg #[.int .i64 full, .int .i64 empty, .slice A hs.length c]] w fun e w' => e = .returned (.tuple #[.bool (toppedOf miss hs), .int .i64 0]) ∧ Below w.heap.size w w' := by
 have HA := Lib.hid hA
 have HG := Lib.hid hG
 clear hA hG
 have hq : (bothErr err miss gs full empty hs != 0) = false := by simp [he]
 obtain ⟨hg0, hc0⟩ := bothErr_zero he
 obtain ⟨_, _, _, m0, m1, _, _⟩ := gateErr_zero hg0
 obtain ⟨_, _, _, _, _, ht, hn⟩ := cartErr_zero hc0
 have HE := Lib.hid he
 have HT := Lib.hid ht
 have HN := Lib.hid hn
 clear he hg0 hc0 ht hn
 have hmf : ∀ (fn : Fn) (first cap : Array Value) (w : World), (Instr.makeFunc fn first cap).run Try.prog w = .ok (.func fn first cap) w := fun _ _ _ _ => rfl
 have e0 : toppedOf miss hs = (!(spotBx miss hs 0).empty && (!(spotBx miss hs 1).empty && (!(spotBx miss hs 2).empty && (allBx miss hs).empty))) := rfl
 have E := Lib.hid e0
 clear e0
 go_enter Try.func53, Try.ntmps53
 go_wp2_with (go_at_call 97; refine (arrive_at err miss full empty G A d c gs hs _ (HG.out.up zg) hgl (HA.out.up zg) hl HE.out).mono ?_; rintro e w2 ⟨rfl, hb2⟩; have hB2 : Below w.heap.size w w2 := Below.trans zg (hb2.mono (by first | omega | (simp; done) | (simp; omega))); have hs2 := hb2.size; simp only [World.size_alloc] at hs2; have HA2 := HA.out.up hB2; clear hb2)
 go_loopw [18] (fun v18 wr => Below w.heap.size w wr ∧ w2.heap.size < wr.heap.size ∧ Holds wr (w2.heap.size) 147 #[.int .i64 full, .int .i64 empty, .slice A hs.length c, .int .i64 err, .int .i64 miss, .slice G gs.length d, .func (.func 99) #[.agg #[.int .i64 full, .int .i64 empty, .slice A hs.length c]] #[]] ∧ (v18 = .int .i64 0 ∨ (v18 = .int .i64 1 ∧ SpotsTo 1 miss hs) ∨ (v18 = .int .i64 2 ∧ SpotsTo 2 miss hs) ∨ (v18 = .int .i64 3 ∧ SpotsTo 3 miss hs))) (fun v18 _ => 3 - (intOf v18).toNat)
 case atStart => exact ⟨zg, by simp, zp1, .inl rfl⟩
 case round =>
  obtain ⟨hB, hS, Ha, rfl | ⟨rfl, hp⟩ | ⟨rfl, hp⟩ | ⟨rfl, hp⟩⟩ := hrel
  ·skip
   have hSS := hB.size
   cases hq2 : (spotBx miss hs 0).empty with
   | true =>
    have HQ : Hid ((boundsOf miss (fun i => ((hs[i]?).map Hf.spot).getD 0 == 0) hs).empty = true) := hq2
    have q := Lib.hid hq2
    clear hq2
    obtain ⟨ca0, ca1, ca2, ca3, ca4, ca5, ca6⟩ := Ha.c7
    go_wp2_with (go_at_call 115; refine (agree_any full empty err miss A c hs _ _ 118 #[] #[.pointer (some ⟨w2.heap.size, 0, none⟩), .pointer (some ⟨wr.heap.size, 0, none⟩)] (fun i => ((hs[i]?).map Hf.spot).getD 0 == 0) _ (HA.out.up (hB.alloc hSS _)) hl m0 m1 HT.out HN.out cf_spot (counts_spot w2.heap.size wr.heap.size A c hs 0 _ hl ((Ha.alloc _).cell 2) ((Holds.new wr 3 #[.int .i64 0]).cell 0) (HA.out.up (hB.alloc hSS _)))).mono ?_; rw [HQ.out]; rintro e w4 ⟨rfl, hb4⟩; have Ha4 : Holds w4 (w2.heap.size) 147 #[.int .i64 full, .int .i64 empty, .slice A hs.length c, .int .i64 err, .int .i64 miss, .slice G gs.length d, .func (.func 99) #[.agg #[.int .i64 full, .int .i64 empty, .slice A hs.length c]] #[]] := Holds.up zp1 hb4; have hB4 : Below w.heap.size w w4 := Below.trans zg (hb4.mono (by first | omega | (simp; done) | (simp; omega))); have hs4 := hb4.size; simp only [World.size_alloc] at hs4; clear hb4)
    go_ret2
    have q := q.out
    have hfin : toppedOf miss hs = false := by rw [E.out]; simp [q]
    exact ⟨by rw [hfin]; rfl, hB4⟩
   | false =>
    have HQ : Hid ((boundsOf miss (fun i => ((hs[i]?).map Hf.spot).getD 0 == 0) hs).empty = false) := hq2
    have q := Lib.hid hq2
    clear hq2
    obtain ⟨ca0, ca1, ca2, ca3, ca4, ca5, ca6⟩ := Ha.c7
    go_wp2_with (go_at_call 115; refine (agree_any full empty err miss A c hs _ _ 118 #[] #[.pointer (some ⟨w2.heap.size, 0, none⟩), .pointer (some ⟨wr.heap.size, 0, none⟩)] (fun i => ((hs[i]?).map Hf.spot).getD 0 == 0) _ (HA.out.up (hB.alloc hSS _)) hl m0 m1 HT.out HN.out cf_spot (counts_spot w2.heap.size wr.heap.size A c hs 0 _ hl ((Ha.alloc _).cell 2) ((Holds.new wr 3 #[.int .i64 0]).cell 0) (HA.out.up (hB.alloc hSS _)))).mono ?_; rw [HQ.out]; rintro e w4 ⟨rfl, hb4⟩; have Ha4 : Holds w4 (w2.heap.size) 147 #[.int .i64 full, .int .i64 empty, .slice A hs.length c, .int .i64 err, .int .i64 miss, .slice G gs.length d, .func (.func 99) #[.agg #[.int .i64 full, .int .i64 empty, .slice A hs.length c]] #[]] := Holds.up zp1 hb4; have hB4 : Below w.heap.size w w4 := Below.trans zg (hb4.mono (by first | omega | (simp; done) | (simp; omega))); have hs4 := hb4.size; simp only [World.size_alloc] at hs4; clear hb4)
    go_roundw
    case rel =>
     have q := q.out
     exact ⟨zg, by omega, zp1, .inr (.inl ⟨rfl, q⟩)⟩
    case measure => simp [intOf]
  ·have p0 : (spotBx miss hs 0).empty = false := hp
   have hSS := hB.size
   cases hq2 : (spotBx miss hs 1).empty with
   | true =>
    have HQ : Hid ((boundsOf miss (fun i => ((hs[i]?).map Hf.spot).getD 0 == 1) hs).empty = true) := hq2
    have q := Lib.hid hq2
    clear hq2
    obtain ⟨ca0, ca1, ca2, ca3, ca4, ca5, ca6⟩ := Ha.c7
    go_wp2_with (go_at_call 115; refine (agree_any full empty err miss A c hs _ _ 118 #[] #[.pointer (some ⟨w2.heap.size, 0, none⟩), .pointer (some ⟨wr.heap.size, 0, none⟩)] (fun i => ((hs[i]?).map Hf.spot).getD 0 == 1) _ (HA.out.up (hB.alloc hSS _)) hl m0 m1 HT.out HN.out cf_spot (counts_spot w2.heap.size wr.heap.size A c hs 1 _ hl ((Ha.alloc _).cell 2) ((Holds.new wr 3 #[.int .i64 1]).cell 0) (HA.out.up (hB.alloc hSS _)))).mono ?_; rw [HQ.out]; rintro e w4 ⟨rfl, hb4⟩; have Ha4 : Holds w4 (w2.heap.size) 147 #[.int .i64 full, .int .i64 empty, .slice A hs.length c, .int .i64 err, .int .i64 miss, .slice G gs.length d, .func (.func 99) #[.agg #[.int .i64 full, .int .i64 empty, .slice A hs.length c]] #[]] := Holds.up zp1 hb4; have hB4 : Below w.heap.size w w4 := Below.trans zg (hb4.mono (by first | omega | (simp; done) | (simp; omega))); have hs4 := hb4.size; simp only [World.size_alloc] at hs4; clear hb4)
    go_ret2
    have q := q.out
    have hfin : toppedOf miss hs = false := by rw [E.out]; simp [p0, q]
    exact ⟨by rw [hfin]; rfl, hB4⟩
   | false =>
    have HQ : Hid ((boundsOf miss (fun i => ((hs[i]?).map Hf.spot).getD 0 == 1) hs).empty = false) := hq2
    have q := Lib.hid hq2
    clear hq2
    obtain ⟨ca0, ca1, ca2, ca3, ca4, ca5, ca6⟩ := Ha.c7
    go_wp2_with (go_at_call 115; refine (agree_any full empty err miss A c hs _ _ 118 #[] #[.pointer (some ⟨w2.heap.size, 0, none⟩), .pointer (some ⟨wr.heap.size, 0, none⟩)] (fun i => ((hs[i]?).map Hf.spot).getD 0 == 1) _ (HA.out.up (hB.alloc hSS _)) hl m0 m1 HT.out HN.out cf_spot (counts_spot w2.heap.size wr.heap.size A c hs 1 _ hl ((Ha.alloc _).cell 2) ((Holds.new wr 3 #[.int .i64 1]).cell 0) (HA.out.up (hB.alloc hSS _)))).mono ?_; rw [HQ.out]; rintro e w4 ⟨rfl, hb4⟩; have Ha4 : Holds w4 (w2.heap.size) 147 #[.int .i64 full, .int .i64 empty, .slice A hs.length c, .int .i64 err, .int .i64 miss, .slice G gs.length d, .func (.func 99) #[.agg #[.int .i64 full, .int .i64 empty, .slice A hs.length c]] #[]] := Holds.up zp1 hb4; have hB4 : Below w.heap.size w w4 := Below.trans zg (hb4.mono (by first | omega | (simp; done) | (simp; omega))); have hs4 := hb4.size; simp only [World.size_alloc] at hs4; clear hb4)
    go_roundw
    case rel =>
     have q := q.out
     exact ⟨zg, by omega, zp1, .inr (.inr (.inl ⟨rfl, p0, q⟩))⟩
    case measure => simp [intOf]
  ·obtain ⟨p0, p1⟩ := hp
   have hSS := hB.size
   cases hq2 : (spotBx miss hs 2).empty with
   | true =>
    have HQ : Hid ((boundsOf miss (fun i => ((hs[i]?).map Hf.spot).getD 0 == 2) hs).empty = true) := hq2
    have q := Lib.hid hq2
    clear hq2
    obtain ⟨ca0, ca1, ca2, ca3, ca4, ca5, ca6⟩ := Ha.c7
    go_wp2_with (go_at_call 115; refine (agree_any full empty err miss A c hs _ _ 118 #[] #[.pointer (some ⟨w2.heap.size, 0, none⟩), .pointer (some ⟨wr.heap.size, 0, none⟩)] (fun i => ((hs[i]?).map Hf.spot).getD 0 == 2) _ (HA.out.up (hB.alloc hSS _)) hl m0 m1 HT.out HN.out cf_spot (counts_spot w2.heap.size wr.heap.size A c hs 2 _ hl ((Ha.alloc _).cell 2) ((Holds.new wr 3 #[.int .i64 2]).cell 0) (HA.out.up (hB.alloc hSS _)))).mono ?_; rw [HQ.out]; rintro e w4 ⟨rfl, hb4⟩; have Ha4 : Holds w4 (w2.heap.size) 147 #[.int .i64 full, .int .i64 empty, .slice A hs.length c, .int .i64 err, .int .i64 miss, .slice G gs.length d, .func (.func 99) #[.agg #[.int .i64 full, .int .i64 empty, .slice A hs.length c]] #[]] := Holds.up zp1 hb4; have hB4 : Below w.heap.size w w4 := Below.trans zg (hb4.mono (by first | omega | (simp; done) | (simp; omega))); have hs4 := hb4.size; simp only [World.size_alloc] at hs4; clear hb4)
    go_ret2
    have q := q.out
    have hfin : toppedOf miss hs = false := by rw [E.out]; simp [p0, p1, q]
    exact ⟨by rw [hfin]; rfl, hB4⟩
   | false =>
    have HQ : Hid ((boundsOf miss (fun i => ((hs[i]?).map Hf.spot).getD 0 == 2) hs).empty = false) := hq2
    have q := Lib.hid hq2
    clear hq2
    obtain ⟨ca0, ca1, ca2, ca3, ca4, ca5, ca6⟩ := Ha.c7
    go_wp2_with (go_at_call 115; refine (agree_any full empty err miss A c hs _ _ 118 #[] #[.pointer (some ⟨w2.heap.size, 0, none⟩), .pointer (some ⟨wr.heap.size, 0, none⟩)] (fun i => ((hs[i]?).map Hf.spot).getD 0 == 2) _ (HA.out.up (hB.alloc hSS _)) hl m0 m1 HT.out HN.out cf_spot (counts_spot w2.heap.size wr.heap.size A c hs 2 _ hl ((Ha.alloc _).cell 2) ((Holds.new wr 3 #[.int .i64 2]).cell 0) (HA.out.up (hB.alloc hSS _)))).mono ?_; rw [HQ.out]; rintro e w4 ⟨rfl, hb4⟩; have Ha4 : Holds w4 (w2.heap.size) 147 #[.int .i64 full, .int .i64 empty, .slice A hs.length c, .int .i64 err, .int .i64 miss, .slice G gs.length d, .func (.func 99) #[.agg #[.int .i64 full, .int .i64 empty, .slice A hs.length c]] #[]] := Holds.up zp1 hb4; have hB4 : Below w.heap.size w w4 := Below.trans zg (hb4.mono (by first | omega | (simp; done) | (simp; omega))); have hs4 := hb4.size; simp only [World.size_alloc] at hs4; clear hb4)
    go_roundw
    case rel =>
     have q := q.out
     exact ⟨zg, by omega, zp1, .inr (.inr (.inr ⟨rfl, p0, p1, q⟩))⟩
    case measure => simp [intOf]
  ·obtain ⟨p0, p1, p2⟩ := hp
   have hSS := hB.size
   cases hq2 : (allBx miss hs).empty
   all_goals
    have HQ : Hid ((boundsOf miss (fun _ => true) hs).empty = _) := hq2
    have q := Lib.hid hq2
    clear hq2
    have P0 := Lib.hid p0
    have P1 := Lib.hid p1
    have P2 := Lib.hid p2
    clear p0 p1 p2
    obtain ⟨ca0, ca1, ca2, ca3, ca4, ca5, ca6⟩ := Ha.c7
    go_wp2_with (go_at_call 115; refine (agree_any full empty err miss A c hs _ _ 99 #[.agg #[.int .i64 full, .int .i64 empty, .slice A hs.length c]] #[] (fun _ => true) _ (HA.out.up hB) hl m0 m1 HT.out HN.out cf_hasHandful (counts_hand full empty A hs.length c _ hl)).mono ?_; rw [HQ.out]; rintro e w4 ⟨rfl, hb4⟩)
    go_ret2
    have hfin : toppedOf miss hs = (allBx miss hs).empty := by rw [E.out, P0.out, P1.out, P2.out]; simp
    exact ⟨by rw [hfin, q.out]; rfl, hB.trans (hb4.mono hSS)⟩
end Go.Proofs.Ytifffonoipapgaa
