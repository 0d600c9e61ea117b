import Derived.Deep.CutRange
import Derived.Test.YtigkcillgniolaaMAA
import Derived.Test.YtigkcillgniolaaMAC
import Derived.Test.YtigkcillgniolaaMAX
import Derived.Test.YtigkcillgniolaaMBR
set_option linter.unusedSimpArgs false
set_option linter.unusedVariables false
namespace Go.Proofs.Ytigkcillgniolaa
open Go.RowKit
set_option maxRecDepth 100000 in
set_option maxHeartbeats 4000000 in
theorem notIn_any (n : Int) (X : Nat) (L : Option Addr) (lc : Nat) (xs : List Int) (w : World) (hX : Holds w X 87 #[.slice L xs.length lc]) (hI : IntsAt w L xs) (hl : xs.length ≤ 1000000) :
  Calls Try.prog 72 #[.int .i64 n, .pointer (some ⟨X, 0, none⟩)] w fun e w' => e = .returned (.bool (!xs.contains n)) ∧ Below w.heap.size w w' := by
 have k0 : w.cell? ⟨X, 0, none⟩ = some (.slice L xs.length lc) := hX.cell 0
 have hlt := hX.lt
 have HI := Lib.hid hI
 clear hX hI
 go_enter Try.func72, Try.ntmps72
 go_wp2_with (go_at_call 57; refine (Contains_any L lc xs n _ HI.out hl).mono ?_; rintro e wv ⟨rfl, rfl⟩)
 go_ret
 exact ⟨by simp, Below.refl _ _⟩
set_option maxRecDepth 100000 in
set_option maxHeartbeats 4000000 in
theorem indexInts_none (A : Option Addr) (c : Nat) (ys : List Int) (X : Nat) (L : Option Addr) (lc : Nat) (xs : List Int) (w : World) (hA : IntsAt w A ys) (hX : Holds w X 87 #[.slice L xs.length lc]) (hI : IntsAt w L xs) (hl : xs.length ≤ 1000000) (hly : ys.length ≤ 1000000) (hs : ∀ n ∈ ys, xs.contains n = true) :
  Calls Try.prog 127 #[.slice A ys.length c, .func (.func 72) #[] #[.pointer (some ⟨X, 0, none⟩)]] w fun e w' => e = .returned (.int .i64 (-1)) ∧ Below w.heap.size w w' := by
 have HA := Lib.hid hA
 have HX := Lib.hid hX
 have HI := Lib.hid hI
 have HS := Lib.hid hs
 clear hA hX hI hs
 go_enter Try.func127, Try.ntmps127
 go_wp2_with fail
 go_loopw [8] (fun v8 wr => ∃ k : Nat, k ≤ ys.length ∧ v8 = .int .i64 (k : Int) ∧ Below w.heap.size w wr) (fun v8 _ => ys.length - (intOf v8).toNat)
 case atStart => exact ⟨0, Nat.zero_le _, rfl, Below.refl _ _⟩
 case round =>
  obtain ⟨k, hk, rfl, hB⟩ := hrel
  have HB := Lib.hid hB
  clear hB
  by_cases hlt : k < ys.length
  ·obtain ⟨B, o, rfl, hcell⟩ := (HA.out.up HB.out) (by omega)
   have c0 := hcell k _ (List.getElem?_eq_getElem hlt)
   clear hcell
   obtain ⟨g, hg⟩ : ∃ z, z = ys[k] := ⟨_, rfl⟩
   have HC : Hid (xs.contains g = true) := Lib.hid (HS.out g (hg ▸ List.getElem_mem hlt))
   rw [← hg] at c0
   clear hg
   go_wp2_with (go_at_call 72; refine (notIn_any g X L lc xs _ (HX.out.up HB.out) (HI.out.up HB.out) hl).mono ?_; rw [HC.out]; rintro e w3 ⟨rfl, hb3⟩; (have H3 := Lib.hid hb3); (clear hb3))
   go_roundw
   case rel => exact ⟨k + 1, hlt, by go_num, HB.out.trans (H3.out.mono HB.out.size)⟩
   case measure => simp [intOf]; omega
  ·have hkl : k = ys.length := by omega
   go_wp2_with fail
   go_ret
   exact ⟨rfl, HB.out⟩
theorem containsFunc_none (A : Option Addr) (c : Nat) (ys : List Int) (X : Nat) (L : Option Addr) (lc : Nat) (xs : List Int) (w : World) (hA : IntsAt w A ys) (hX : Holds w X 87 #[.slice L xs.length lc]) (hI : IntsAt w L xs) (hl : xs.length ≤ 1000000) (hly : ys.length ≤ 1000000) (hs : ∀ n ∈ ys, xs.contains n = true) :
  Calls Try.prog 71 #[.slice A ys.length c, .func (.func 72) #[] #[.pointer (some ⟨X, 0, none⟩)]] w fun e w' => e = .returned (.bool false) ∧ Below w.heap.size w w' := by
 go_enter Try.func71, Try.ntmps71
 go_wp2_with (go_at_call 127; refine (indexInts_none A c ys X L lc xs _ hA hX hI hl hly hs).mono ?_; rintro e w3 ⟨rfl, hb3⟩)
 go_ret
 exact ⟨rfl, hb3⟩
def partsOkW (ops : Array Oper) (ds : List (Option Nat)) (uses : List (List Nat)) (dead : List (Nat × Nat)) (n : Nat) : Bool :=
 (ops.toList.map (·.dst) == ds) && decide (slotsOf ds).Nodup && (slotsOf ds).all (fun d => decide (d < n)) &&
 (List.range ops.size).all (fun i => ((ops[i]?).map fun o => o.after.all fun e => !Region.binds .any e || decide (e.on < i)).getD true) &&
 (List.range ops.size).all (fun j => (uses.getD j []).all fun t => (List.range ops.size).all fun i => i == j || !(ds.getD i none == some t) || reach ops 6 j i) &&
 (List.range uses.length).all (fun j => decide (j < ops.size) || (uses.getD j []).all fun t => (List.range ops.size).all fun i => !(ds.getD i none == some t) || dead.contains (i, j))
section
variable {P : Program} {ops : Array Oper} {Q : Exit → Act → World → Prop}
theorem wpOp_of_list {i : Nat} {o : Oper} {a : Act} {w : World} {K : Act → World → Prop} (ho : ops[i]? = some o) (h : wpList P ops (Thence Q K) [o] a w) : wpOp P ops Q i K a w := by
 unfold wpOp
 rw [ho]
 simp only
 by_cases hw : Region.wanted o (yielded ops a.tmps) = true
 ·rw [if_pos hw]
  unfold wpList at h
  rw [if_pos hw] at h
  rcases h with h | ⟨h1, a', w', h2⟩
  ·left
   unfold Oper.wp at h ⊢
   generalize (execOp a.eval o).run P w = r at *
   cases r with
   | ok n w' =>
    cases n <;> simp only [Oper.upon] at h ⊢ <;>
     first
      | exact h
      | exact Calls.mono h (fun e w'' he => by cases e <;> first | exact he | (obtain ⟨a', w', h2⟩ := he; exact ⟨a', w', h2⟩))
      | exact Rows.mono h (fun _ _ he => he)
   | _ => exact h
  ·right
   exact ⟨h1, a', w', h2⟩
 ·rw [if_neg hw]
  unfold wpList at h
  rw [if_neg hw] at h
  exact h
theorem wp_region_partsW {id : Nat} {a0 : Act} {w0 : World} (hm : P.follows .mixedOrders = true) (ds : List (Option Nat)) (V : Nat → (Nat → Value) → World → Prop) (uses : List (List Nat)) (dead : List (Nat × Nat)) (Base : World → Prop)
  (hok : partsOkW ops ds uses dead a0.tmps.size = true)
  (hx : ∀ j x x' w, (∀ t ∈ uses.getD j [], x t = x' t) → V j x w → V j x' w)
  (hV : ∀ j x w w', Below w.heap.size w w' → V j x w → V j x w')
  (hB : ∀ w w', Below w.heap.size w w' → Base w → Base w') (h0 : Base w0) (h00 : ∀ j, ops.size ≤ j → V j (fun t => a0.tmps.getD t undef) w0)
  (hstep : Each (fun i o => ∀ (x : Nat → Value) (w : World), Base w → (∀ j, (waits o j || decide (ops.size ≤ j)) = true → safe ops dead i j = true → V j x w) →
   ∀ K : Act → World → Prop, (∀ v w', (Below w.heap.size w w' ∨ Base w' ∧ ∀ j x, dead.contains (i, j) = false → j ≠ i → V j x w → V j x w') → V i (setSlot x (ds.getD i none) v) w' → K (frameOf (slotsOf ds) (setSlot x (ds.getD i none) v) a0) w') →
    wpList P ops (Thence Q K) [o] (frameOf (slotsOf ds) x a0) w) 0 ops.toList)
  (hend : ∀ (x : Nat → Value) (w : World), Base w → (∀ j, (∀ i, i < ops.size → dead.contains (i, j) = false) → V j x w) → Q .normal (frameOf (slotsOf ds) x a0) w) :
  (Code.region id ops true).wp P Q a0 w0 := by
 simp only [partsOkW, Bool.and_eq_true, decide_eq_true_eq, beq_iff_eq, List.all_eq_true, List.mem_range, Bool.or_eq_true] at hok
 obtain ⟨⟨⟨⟨⟨hdst, hnd⟩, hlt⟩, hord⟩, huse⟩, huse0⟩ := hok
 have hget : ∀ i, i < ops.size → ∃ o, ops[i]? = some o ∧ ops.toList[i]? = some o ∧ o.dst = ds.getD i none := by
  intro i hi
  refine ⟨ops[i], by simp [hi], by simp [hi], ?_⟩
  ·rw [← hdst]
   simp [List.getD, hi]
 have hordr : ∀ (listed : Array Bool), listed.size = ops.size → Region.ready .any ops listed = [] → ∀ i, i < ops.size → listed.getD i false = true := by
  intro listed hsz hr i
  induction i using Nat.strongRecOn with
  | ind i ih =>
   intro hi
   cases hl : listed.getD i false with
   | true => rfl
   | false =>
    exfalso
    have : i ∈ Region.ready .any ops listed := by
     simp only [Region.ready, List.mem_filter, List.mem_range, Bool.and_eq_true, Bool.not_eq_true']
     refine ⟨hi, by rw [getD_tf (by omega) true false]; exact hl, ?_⟩
     have ho : ops[i]? = some ops[i] := by simp [hi]
     have hb := hord i hi
     rw [ho] at hb ⊢
     simp only [Option.map_some, Option.getD_some, Array.all_eq_true_iff_forall_mem] at hb ⊢
     intro e he
     cases hbd : Region.binds .any e with
     | false => simp
     | true =>
      have h1 : e.on < i := by simpa [hbd] using hb e he
      simp [ih e.on h1 (by omega)]
    rw [hr] at this
    cases this
 have fin : ∀ (listed : Array Bool) (a : Act) (w : World), OnTheWayG ops ds V dead Base a0 listed a w → Region.ready .any ops listed = [] → Q .normal a w := by
  rintro listed a w ⟨hsz, _, hb, x, rfl, hx'⟩ hr
  have hall := hordr listed hsz hr
  exact hend x w hb (fun j hd => hx' j (fun hj => hall j hj) (fun i hi _ => hd i hi))
 have main : ∀ (fuel : Nat) (listed : Array Bool) (a : Act) (w : World), listed.toList.countP (fun b => !b) ≤ fuel → OnTheWayG ops ds V dead Base a0 listed a w → wpAny P .any ops Q fuel listed a w := by
  intro fuel
  induction fuel with
  | zero =>
   intro listed a w hfuel hway
   have hr : Region.ready .any ops listed = [] := by
    rw [List.eq_nil_iff_forall_not_mem]
    intro i hi
    obtain ⟨h1, h2, _⟩ := ready_spec hi
    have h0 : listed.toList.countP (fun b => !b) = 0 := by omega
    rw [List.countP_eq_zero] at h0
    have hsz := hway.1
    have : listed[i]'(by omega) = true := by
     have := h0 (listed[i]'(by omega)) (by simp)
     simpa using this
    simp [Array.getD, show i < listed.size from by omega, this] at h2
   exact ⟨hr, fin listed a w hway hr⟩
  | succ fuel ih =>
   intro listed a w hfuel hway
   refine ⟨fin listed a w hway, fun i hi => ?_⟩
   obtain ⟨h1, h2, h3⟩ := ready_spec hi
   have hsz := hway.1
   have his : i < listed.size := by omega
   have hfl : listed[i] = false := by simpa [Array.getD, his] using h2
   have hcount : (listed.setIfInBounds i true).toList.countP (fun b => !b) ≤ fuel := by
    have hli : listed.toList[i]'(by simpa using his) = false := by simpa using hfl
    have hpos : 0 < listed.toList.countP (fun b => !b) := List.countP_pos_iff.2 ⟨false, List.mem_of_getElem? (i := i) (by simp [his, hfl]), rfl⟩
    rw [Array.toList_setIfInBounds, List.countP_set (by simpa using his), hli]
    simp only [Bool.not_false, Bool.not_true, if_true, Bool.false_eq_true, if_false]
    omega
   have hsz' : (listed.setIfInBounds i true).size = ops.size := by simp [hsz]
   have hnew : ∀ j, (listed.setIfInBounds i true).getD j false = if j = i then true else listed.getD j false := by
    intro j
    by_cases hj : j < listed.size
    ·by_cases hji : j = i
     ·subst hji; simp [Array.getD, hj]
     ·simp [Array.getD, hj, hji, Array.getElem_setIfInBounds, Ne.symm hji]
    ·have : j ≠ i := by omega
     simp [Array.getD, hj, this]
   obtain ⟨_, hcl, hb, x, rfl, hx'⟩ := hway
   have hli : listed.getD i false = false := by rw [getD_tf his false true]; exact h2
   have hcl' : ∀ k o, ops[k]? = some o → (listed.setIfInBounds i true).getD k false = true → ∀ e ∈ o.after, Region.binds .any e = true → (listed.setIfInBounds i true).getD e.on false = true := by
    intro k o hk hl e he hb
    rw [hnew] at hl ⊢
    by_cases hei : e.on = i
    ·rw [if_pos hei]
    ·rw [if_neg hei]
     by_cases hki : k = i
     ·subst hki; exact h3 o hk e he hb
     ·rw [if_neg hki] at hl; exact hcl k o hk hl e he hb
   obtain ⟨o, ho1, ho2, hd⟩ := hget i h1
   have hst := Each.at_ _ 0 i o hstep ho2
   simp only [Nat.zero_add] at hst
   have hseen : ∀ j, (waits o j || decide (ops.size ≤ j)) = true → safe ops dead i j = true → V j x w := by
    intro j hj hsafe
    simp only [safe, List.all_eq_true, Bool.or_eq_true, Bool.not_eq_true', beq_eq_false_iff_ne, beq_iff_eq] at hsafe
    have hlj : j < ops.size → listed.getD j false = true := by
     intro hjs
     rw [Bool.or_eq_true] at hj
     rcases hj with hj | hj
     ·simp only [waits, List.any_eq_true, Bool.and_eq_true, beq_iff_eq] at hj
      obtain ⟨e, he, hbd, rfl⟩ := hj
      exact h3 o ho1 e (by simpa using he) hbd
     ·exact absurd hjs (by simpa using hj)
    refine hx' j hlj (fun k hk hlk => ?_)
    cases hdd : dead.contains (k, j) with
    | false => rfl
    | true =>
     exfalso
     have hmem : (k, j) ∈ dead := by simpa using hdd
     rcases hsafe _ hmem with (h | h) | h
     ·exact h rfl
     ·simp only at h; subst h; rw [hli] at hlk; cases hlk
     ·have := reach_spec hcl 6 k i (fun o' ho' e' he' hb' => hcl k o' ho' hlk e' he' hb') h
      rw [hli] at this
      cases this
   have hds : ∀ t, ds.getD i none = some t → t ∈ slotsOf ds := by
    intro t ht
    refine List.mem_filterMap.2 ⟨some t, ?_, rfl⟩
    rw [List.getD_eq_getElem?_getD] at ht
    cases hq : ds[i]? with
    | none => rw [hq] at ht; cases ht
    | some u => rw [hq] at ht; simp at ht; subst ht; exact List.mem_of_getElem? hq
   refine wpOp_of_list ho1 (hst x w hb hseen _ (fun v w' hor hv => ?_))
   rw [← frame_putG (slotsOf ds) x a0 (ds.getD i none) v hds]
   rw [frame_putG (slotsOf ds) x a0 (ds.getD i none) v hds]
   have hkeep : Base w' ∧ ∀ j x, dead.contains (i, j) = false → j ≠ i → V j x w → V j x w' := by
    rcases hor with h | h
    ·exact ⟨hB _ _ h hb, fun j x _ _ hv => hV j x w w' h hv⟩
    ·exact h
   refine ih _ _ w' hcount ⟨hsz', hcl', hkeep.1, _, rfl, fun j hlj hdj => ?_⟩
   by_cases hji : j = i
   ·subst hji; exact hv
   ·have hlj' : j < ops.size → listed.getD j false = true := fun hj => by
     have := hlj hj
     rwa [hnew, if_neg hji] at this
    have hold := hx' j hlj' (fun k hk hlk => hdj k hk (by rw [hnew]; split; rfl; exact hlk))
    have hdi := hdj i h1 (by rw [hnew]; simp)
    refine hx j x _ w' (fun t ht => ?_) (hkeep.2 j x hdi hji hold)
    cases hdi' : ds.getD i none with
    | none => rfl
    | some d =>
     simp only [setSlot]
     by_cases htd : t = d
     ·subst htd
      exfalso
      by_cases hj : j < ops.size
      ·rcases huse j hj t ht i h1 with (h | h) | h
       ·exact hji h.symm
       ·rw [hdi'] at h; simp at h
       ·have := reach_spec hcl 6 j i (fun o' ho' e' he' hb' => hcl j o' ho' (hlj' hj) e' he' hb') h
        rw [hli] at this
        cases this
      ·have hjl : j < uses.length := by
        rcases Nat.lt_or_ge j uses.length with h | h
        ·exact h
        ·rw [List.getD_eq_getElem?_getD, List.getElem?_eq_none h] at ht; cases ht
       rcases huse0 j hjl with h | h
       ·exact hj h
       ·rcases h t ht i h1 with h | h
        ·rw [hdi'] at h; simp at h
        ·rw [h] at hdi; cases hdi
     ·rw [if_neg htd]
 refine wp_region_any hm (main ops.size _ a0 _ ?_ ⟨by simp, fun i o _ hl => absurd hl (by simp [Array.getD]), hB _ _ ((Below.refl _ w0).drew) h0, _, (frame_self (slotsOf ds) a0).symm, fun j hl _ => ?_⟩)
 ·have := List.countP_le_length (p := fun b => !b) (l := (Array.replicate ops.size false).toList)
  simpa using this
 ·rcases Nat.lt_or_ge j ops.size with h | h
  ·have := hl h
   simp [Array.getD] at this
  ·exact hV _ _ _ _ ((Below.refl _ w0).drew) (h00 j h)
end
theorem fill_append (ds : List Nat) (x : Nat → Value) : ∀ (l r : List Value) (t : Nat), fill ds x t (l ++ r) = fill ds x t l ++ fill ds x (t + l.length) r
 | [], r, t => by simp [fill]
 | v :: l, r, t => by
  simp only [List.cons_append, fill, fill_append ds x l r (t + 1), List.length_cons]
  rw [show t + 1 + l.length = t + (l.length + 1) by omega]
theorem fill_out (ds : List Nat) (x : Nat → Value) : ∀ (l : List Value) (t : Nat), (∀ i, t ≤ i → i < t + l.length → ds.contains i = false) → fill ds x t l = l
 | [], t, _ => rfl
 | v :: l, t, h => by
  have h0 := h t (Nat.le_refl _) (by simp)
  simp only [fill, h0, Bool.false_eq_true, if_false]
  rw [fill_out ds x l (t + 1) (fun i h1 h2 => h i (by omega) (by simp; omega))]
theorem fill_in (ds : List Nat) (x : Nat → Value) : ∀ (l : List Value) (t : Nat), (∀ i, t ≤ i → i < t + l.length → ds.contains i = true) → fill ds x t l = (List.range' t l.length).map x
 | [], t, _ => rfl
 | v :: l, t, h => by
  have h0 := h t (Nat.le_refl _) (by simp)
  simp only [fill, h0, if_true, List.length_cons, List.range'_succ, List.map_cons]
  rw [fill_in ds x l (t + 1) (fun i h1 h2 => h i (by omega) (by simp; omega))]
theorem frameOf_run {ds : List Nat} (a n : Nat) (hds : ds = List.range' a n) (x : Nat → Value) (l : List Value) (df : _) (hl : decide (a + n ≤ l.length) = true) :
  frameOf ds x ⟨l.toArray, df⟩ = ⟨(l.take a ++ ((List.range' a n).map x ++ l.drop (a + n))).toArray, df⟩ := by
 have hl' : a + n ≤ l.length := by simpa using hl
 subst hds
 have e : l = l.take a ++ ((l.drop a).take n ++ l.drop (a + n)) := by
  rw [show l.drop (a + n) = (l.drop a).drop n by simp [List.drop_drop], List.take_append_drop, List.take_append_drop]
 unfold frameOf
 simp only
 congr 2
 conv => lhs; rw [e]
 have l1 : (l.take a).length = a := by simp; omega
 have l2 : ((l.drop a).take n).length = n := by simp; omega
 have c : ∀ i, (List.range' a n).contains i = (decide (a ≤ i) && decide (i < a + n)) := by
  intro i
  rw [Bool.eq_iff_iff, List.contains_iff_mem, List.mem_range'_1]
  simp
 rw [fill_append, fill_append, l1, l2, fill_out _ _ (l.take a) 0 (fun i h1 h2 => by rw [c]; simp; omega),
  fill_in _ _ ((l.drop a).take n) (0 + a) (fun i h1 h2 => by rw [c]; simp; omega), fill_out _ _ (l.drop (a + n)) _ (fun i h1 h2 => by rw [c]; simp; omega), l2, Nat.zero_add]
section
variable {P : Program} {ops : Array Oper} {Q : Exit → Act → World → Prop}
def runOf (a n : Nat) (x : Nat → Value) (l : List Value) : Array Value := (l.take a ++ ((List.range' a n).map x ++ l.drop (a + n))).toArray
theorem wp_region_partsR {id : Nat} {l : List Value} {df : _} {w0 : World} (a n : Nat) (hm : P.follows .mixedOrders = true) (ds : List (Option Nat)) (V : Nat → (Nat → Value) → World → Prop) (uses : List (List Nat)) (dead : List (Nat × Nat)) (Base : World → Prop)
  (hok : partsOkW ops ds uses dead l.length = true) (hds : slotsOf ds = List.range' a n) (hl : decide (a + n ≤ l.length) = true)
  (hx : ∀ j x x' w, (∀ t ∈ uses.getD j [], x t = x' t) → V j x w → V j x' w)
  (hV : ∀ j x w w', Below w.heap.size w w' → V j x w → V j x w')
  (hB : ∀ w w', Below w.heap.size w w' → Base w → Base w') (h0 : Base w0) (h00 : ∀ j, ops.size ≤ j → V j (fun t => l.toArray.getD t undef) w0)
  (hstep : Each (fun i o => ∀ (x : Nat → Value) (w : World), Base w → (∀ j, (waits o j || decide (ops.size ≤ j)) = true → safe ops dead i j = true → V j x w) →
   ∀ K : Act → World → Prop, (∀ v w', (Below w.heap.size w w' ∨ Base w' ∧ ∀ j x, dead.contains (i, j) = false → j ≠ i → V j x w → V j x w') → V i (setSlot x (ds.getD i none) v) w' → K ⟨runOf a n (setSlot x (ds.getD i none) v) l, df⟩ w') →
    wpList P ops (Thence Q K) [o] ⟨runOf a n x l, df⟩ w) 0 ops.toList)
  (hend : ∀ (x : Nat → Value) (w : World), Base w → (∀ j, (∀ i, i < ops.size → dead.contains (i, j) = false) → V j x w) → Q .normal ⟨runOf a n x l, df⟩ w) :
  (Code.region id ops true).wp P Q ⟨l.toArray, df⟩ w0 := by
 have e : ∀ x, frameOf (slotsOf ds) x ⟨l.toArray, df⟩ = ⟨runOf a n x l, df⟩ := fun x => frameOf_run a n hds x l df hl
 refine wp_region_partsW hm ds V uses dead Base (by simpa using hok) hx hV hB h0 h00 ?_ ?_
 ·simp only [e]; exact hstep
 ·simp only [e]; exact hend
end
theorem has_gat {b : Bx} {m0 m1 m2 m3 : Int} (h : b.has m0 m1 m2 m3) (k : Nat) : bLo b k ≤ gat m0 m1 m2 m3 k ∧ gat m0 m1 m2 m3 k ≤ bHi b k := by
 unfold Bx.has at h
 match k with
 | 0 => show b.l0 ≤ m0 ∧ m0 ≤ b.h0; omega
 | 1 => show b.l1 ≤ m1 ∧ m1 ≤ b.h1; omega
 | 2 => show b.l2 ≤ m2 ∧ m2 ≤ b.h2; omega
 | _ + 3 => show b.l3 ≤ m3 ∧ m3 ≤ b.h3; omega
theorem cell8_lo {w : World} {S : Nat} {b : Bx} (h : Holds w S 76 #[.int .i64 b.l0, .int .i64 b.h0, .int .i64 b.l1, .int .i64 b.h1, .int .i64 b.l2, .int .i64 b.h2, .int .i64 b.l3, .int .i64 b.h3]) {k : Nat} (hk : k < 4) : w.cell? ⟨S, k * 2, none⟩ = some (.int .i64 (bLo b k)) := by
 match k, hk with
 | 0, _ => exact h.cell 0
 | 1, _ => exact h.cell 2
 | 2, _ => exact h.cell 4
 | 3, _ => exact h.cell 6
theorem cell8_hi {w : World} {S : Nat} {b : Bx} (h : Holds w S 76 #[.int .i64 b.l0, .int .i64 b.h0, .int .i64 b.l1, .int .i64 b.h1, .int .i64 b.l2, .int .i64 b.h2, .int .i64 b.l3, .int .i64 b.h3]) {k : Nat} (hk : k < 4) : w.cell? ⟨S, k * 2 + 1, none⟩ = some (.int .i64 (bHi b k)) := by
 match k, hk with
 | 0, _ => exact h.cell 1
 | 1, _ => exact h.cell 3
 | 2, _ => exact h.cell 5
 | 3, _ => exact h.cell 7
end Go.Proofs.Ytigkcillgniolaa
