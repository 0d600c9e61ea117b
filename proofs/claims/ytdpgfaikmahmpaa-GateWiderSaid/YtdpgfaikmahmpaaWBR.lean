import Derived.Shelf.Spec.SlicesInsert
import Derived.Deep.MidRow
import Derived.Deep.CutRange
import Derived.Test.YtdpgfaikmahmpaaWAA
import Derived.Test.YtdpgfaikmahmpaaWAC
import Derived.Test.YtdpgfaikmahmpaaWAG
import Derived.Test.YtdpgfaikmahmpaaWAH
import Derived.Test.YtdpgfaikmahmpaaWAN
import Derived.Test.YtdpgfaikmahmpaaWAO
import Derived.Test.YtdpgfaikmahmpaaWAU
import Derived.Test.YtdpgfaikmahmpaaWAV
import Derived.Test.YtdpgfaikmahmpaaWAX
import Derived.Test.YtdpgfaikmahmpaaWBB
import Derived.Test.YtdpgfaikmahmpaaWBC
import Derived.Test.YtdpgfaikmahmpaaWBD
import Derived.Test.YtdpgfaikmahmpaaWBG
import Derived.Test.YtdpgfaikmahmpaaWBH
import Derived.Test.YtdpgfaikmahmpaaWBQ
set_option linter.unusedSimpArgs false
set_option linter.unusedVariables false
namespace Go.Proofs.Ytdpgfaikmahmpaa
open Go.RowKit
theorem bytes_of {w : World} {a : Option Addr} {len cap : Nat} {zs : List Int}
  (h : (a = none ∧ len = 0 ∧ cap = 0 ∧ zs = []) ∨ ∃ x, a = some x ∧ len ≤ cap ∧ cap ≤ maxLen ∧ zs.length = cap ∧ (∀ i, i < zs.length → w.cell? (x.add i) = some (.int .u8 (zs.getD i 0))) ∧ ∀ n ∈ zs, (Lit.int .u8 n).wf = true) : BytesAt w a len ∧ len ≤ 9223372036854775807 := by
 rcases h with ⟨rfl, rfl, rfl, rfl⟩ | ⟨x, rfl, hl, hm, hz, hc, _⟩
 ·exact ⟨fun h => absurd h (Nat.lt_irrefl 0), by decide⟩
 ·refine ⟨fun hp => ?_, by unfold maxLen at hm; omega⟩
  have h0 := hc 0 (by omega)
  obtain ⟨B, o, s⟩ := x
  have hs : s = none := by
   cases s with
   | none => rfl
   | some s =>
    simp only [Addr.add, if_true, World.cell?] at h0
    split at h0 <;> simp at h0
  subst hs
  refine ⟨B, o, rfl, fun k hk => ⟨zs.getD k 0, ?_⟩⟩
  have hk' := hc k (by omega)
  rcases Nat.eq_zero_or_pos k with rfl | hkp
  ·simpa [Addr.add] using hk'
  ·simpa [Addr.add, Nat.ne_of_gt hkp] using hk'
theorem u8_in {a : Int} (h : (Lit.int .u8 a).wf = true) : 0 ≤ a ∧ a ≤ 255 := by
 have h1 : IntKind.u8.min = 0 := by decide
 have h2 : IntKind.u8.max = 255 := by decide
 simp only [Lit.wf, h1, h2, Bool.and_eq_true, decide_eq_true_eq] at h
 exact h

def bLo (b : Bx) (k : Nat) : Int := gat b.l0 b.l1 b.l2 b.l3 k
def bHi (b : Bx) (k : Nat) : Int := gat b.h0 b.h1 b.h2 b.h3 k



open Go.RowKit Go.Maps
def RowIn (w : World) (a : Option Addr) (len cap : Nat) (zs : List Int) : Prop :=
 (a = none ∧ len = 0 ∧ cap = 0 ∧ zs = []) ∨ ∃ x, a = some x ∧ len ≤ cap ∧ cap ≤ maxLen ∧ zs.length = cap ∧ (∀ i, i < zs.length → w.cell? (x.add i) = some (.int .u8 (zs.getD i 0))) ∧ ∀ n ∈ zs, (Lit.int .u8 n).wf = true

def Bx.Sub (b c : Bx) : Prop := ∀ m0 m1 m2 m3 : Int, m0 + m1 + m2 + m3 = 40 → b.has m0 m1 m2 m3 → c.has m0 m1 m2 m3
theorem sub_lo {b c : Bx} (h : b.Sub c) (t : b.Tight) (k : Nat) : bLo c k ≤ bLo b k := by
 match k with
 | 0 => obtain ⟨x, y, z, hs, hh⟩ := t.at0 (Int.le_refl _) t.k0; exact (h _ _ _ _ hs hh).1.1
 | 1 => obtain ⟨x, y, z, hs, hh⟩ := t.at1 (Int.le_refl _) t.k1; exact (h _ _ _ _ hs hh).2.1.1
 | 2 => obtain ⟨x, y, z, hs, hh⟩ := t.at2 (Int.le_refl _) t.k2; exact (h _ _ _ _ hs hh).2.2.1.1
 | _ + 3 => obtain ⟨x, y, z, hs, hh⟩ := t.at3 (Int.le_refl _) t.k3; exact (h _ _ _ _ hs hh).2.2.2.1
theorem sub_hi {b c : Bx} (h : b.Sub c) (t : b.Tight) (k : Nat) : bHi b k ≤ bHi c k := by
 match k with
 | 0 => obtain ⟨x, y, z, hs, hh⟩ := t.at0 t.k0 (Int.le_refl _); exact (h _ _ _ _ hs hh).1.2
 | 1 => obtain ⟨x, y, z, hs, hh⟩ := t.at1 t.k1 (Int.le_refl _); exact (h _ _ _ _ hs hh).2.1.2
 | 2 => obtain ⟨x, y, z, hs, hh⟩ := t.at2 t.k2 (Int.le_refl _); exact (h _ _ _ _ hs hh).2.2.1.2
 | _ + 3 => obtain ⟨x, y, z, hs, hh⟩ := t.at3 t.k3 (Int.le_refl _); exact (h _ _ _ _ hs hh).2.2.2.2
theorem MadeOk.snoc {err miss full emp m0 m1 m2 m3 : Int} {gs : List Gr} {hs : List Hf} (h : MadeOk err miss full emp m0 m1 m2 m3 gs hs) {x : Hf} (hx : TakenOk miss m0 m1 m2 m3 x) : MadeOk err miss full emp m0 m1 m2 m3 gs (hs ++ [x]) :=
 { h with
  taken := by
   intro y hy
   rcases List.mem_append.1 hy with hy | hy
   ·exact h.taken y hy
   ·rw [List.mem_singleton] at hy; subst hy; exact hx }





theorem HandsAt.pre {w : World} {A : Option Addr} {xs ys : List Hf} (h : HandsAt w A (xs ++ ys)) : HandsAt w A xs := fun hn => by
 obtain ⟨B, o, e, hc⟩ := h (by rw [List.length_append]; omega)
 exact ⟨B, o, e, fun k x hx => hc k x (by rw [List.getElem?_append_left (List.getElem?_eq_some_iff.1 hx).1]; exact hx)⟩
theorem Holds.other {W w : World} {B mb : Nat} {t u : TypeId} {cs ds : Array Value} (h : Holds W B t cs) (s : Holds W mb u ds) (g : W.grownBy w (some mb)) (hne : t ≠ u) : Holds w B t cs :=
 h.grown g (fun e => by subst e; have h1 := h.symm.trans s; simp at h1; exact hne h1.2)
def partsOkW (ops : Array Oper) (ds : List (Option Nat)) (uses : List (List Nat)) (dead : List (Nat × Nat)) (n : Nat) : Bool :=
 (ops.toList.map (·.dst) == ds) && decide (slotsOf ds).Nodup && (slotsOf ds).all (fun d => decide (d < n)) &&
 (List.range ops.size).all (fun i => ((ops[i]?).map fun o => o.after.all fun e => !Region.binds .any e || decide (e.on < i)).getD true) &&
 (List.range ops.size).all (fun j => (uses.getD j []).all fun t => (List.range ops.size).all fun i => i == j || !(ds.getD i none == some t) || reach ops 6 j i) &&
 (List.range uses.length).all (fun j => decide (j < ops.size) || (uses.getD j []).all fun t => (List.range ops.size).all fun i => !(ds.getD i none == some t) || dead.contains (i, j))
section
variable {P : Program} {ops : Array Oper} {Q : Exit → Act → World → Prop}
theorem wpOp_of_list {i : Nat} {o : Oper} {a : Act} {w : World} {K : Act → World → Prop} (ho : ops[i]? = some o) (h : wpList P ops (Thence Q K) [o] a w) : wpOp P ops Q i K a w := by
 unfold wpOp
 rw [ho]
 simp only
 by_cases hw : Region.wanted o (yielded ops a.tmps) = true
 ·rw [if_pos hw]
  unfold wpList at h
  rw [if_pos hw] at h
  rcases h with h | ⟨h1, a', w', h2⟩
  ·left
   unfold Oper.wp at h ⊢
   generalize (execOp a.eval o).run P w = r at *
   cases r with
   | ok n w' =>
    cases n <;> simp only [Oper.upon] at h ⊢ <;>
     first
      | exact h
      | exact Calls.mono h (fun e w'' he => by cases e <;> first | exact he | (obtain ⟨a', w', h2⟩ := he; exact ⟨a', w', h2⟩))
      | exact Rows.mono h (fun _ _ he => he)
   | _ => exact h
  ·right
   exact ⟨h1, a', w', h2⟩
 ·rw [if_neg hw]
  unfold wpList at h
  rw [if_neg hw] at h
  exact h
theorem wp_region_partsW {id : Nat} {a0 : Act} {w0 : World} (hm : P.follows .mixedOrders = true) (ds : List (Option Nat)) (V : Nat → (Nat → Value) → World → Prop) (uses : List (List Nat)) (dead : List (Nat × Nat)) (Base : World → Prop)
  (hok : partsOkW ops ds uses dead a0.tmps.size = true)
  (hx : ∀ j x x' w, (∀ t ∈ uses.getD j [], x t = x' t) → V j x w → V j x' w)
  (hV : ∀ j x w w', Below w.heap.size w w' → V j x w → V j x w')
  (hB : ∀ w w', Below w.heap.size w w' → Base w → Base w') (h0 : Base w0) (h00 : ∀ j, ops.size ≤ j → V j (fun t => a0.tmps.getD t undef) w0)
  (hstep : Each (fun i o => ∀ (x : Nat → Value) (w : World), Base w → (∀ j, (waits o j || decide (ops.size ≤ j)) = true → safe ops dead i j = true → V j x w) →
   ∀ K : Act → World → Prop, (∀ v w', (Below w.heap.size w w' ∨ Base w' ∧ ∀ j x, dead.contains (i, j) = false → j ≠ i → V j x w → V j x w') → V i (setSlot x (ds.getD i none) v) w' → K (frameOf (slotsOf ds) (setSlot x (ds.getD i none) v) a0) w') →
    wpList P ops (Thence Q K) [o] (frameOf (slotsOf ds) x a0) w) 0 ops.toList)
  (hend : ∀ (x : Nat → Value) (w : World), Base w → (∀ j, (∀ i, i < ops.size → dead.contains (i, j) = false) → V j x w) → Q .normal (frameOf (slotsOf ds) x a0) w) :
  (Code.region id ops true).wp P Q a0 w0 := by
 simp only [partsOkW, Bool.and_eq_true, decide_eq_true_eq, beq_iff_eq, List.all_eq_true, List.mem_range, Bool.or_eq_true] at hok
 obtain ⟨⟨⟨⟨⟨hdst, hnd⟩, hlt⟩, hord⟩, huse⟩, huse0⟩ := hok
 have hget : ∀ i, i < ops.size → ∃ o, ops[i]? = some o ∧ ops.toList[i]? = some o ∧ o.dst = ds.getD i none := by
  intro i hi
  refine ⟨ops[i], by simp [hi], by simp [hi], ?_⟩
  ·rw [← hdst]
   simp [List.getD, hi]
 have hordr : ∀ (listed : Array Bool), listed.size = ops.size → Region.ready .any ops listed = [] → ∀ i, i < ops.size → listed.getD i false = true := by
  intro listed hsz hr i
  induction i using Nat.strongRecOn with
  | ind i ih =>
   intro hi
   cases hl : listed.getD i false with
   | true => rfl
   | false =>
    exfalso
    have : i ∈ Region.ready .any ops listed := by
     simp only [Region.ready, List.mem_filter, List.mem_range, Bool.and_eq_true, Bool.not_eq_true']
     refine ⟨hi, by rw [getD_tf (by omega) true false]; exact hl, ?_⟩
     have ho : ops[i]? = some ops[i] := by simp [hi]
     have hb := hord i hi
     rw [ho] at hb ⊢
     simp only [Option.map_some, Option.getD_some, Array.all_eq_true_iff_forall_mem] at hb ⊢
     intro e he
     cases hbd : Region.binds .any e with
     | false => simp
     | true =>
      have h1 : e.on < i := by simpa [hbd] using hb e he
      simp [ih e.on h1 (by omega)]
    rw [hr] at this
    cases this
 have fin : ∀ (listed : Array Bool) (a : Act) (w : World), OnTheWayG ops ds V dead Base a0 listed a w → Region.ready .any ops listed = [] → Q .normal a w := by
  rintro listed a w ⟨hsz, _, hb, x, rfl, hx'⟩ hr
  have hall := hordr listed hsz hr
  exact hend x w hb (fun j hd => hx' j (fun hj => hall j hj) (fun i hi _ => hd i hi))
 have main : ∀ (fuel : Nat) (listed : Array Bool) (a : Act) (w : World), listed.toList.countP (fun b => !b) ≤ fuel → OnTheWayG ops ds V dead Base a0 listed a w → wpAny P .any ops Q fuel listed a w := by
  intro fuel
  induction fuel with
  | zero =>
   intro listed a w hfuel hway
   have hr : Region.ready .any ops listed = [] := by
    rw [List.eq_nil_iff_forall_not_mem]
    intro i hi
    obtain ⟨h1, h2, _⟩ := ready_spec hi
    have h0 : listed.toList.countP (fun b => !b) = 0 := by omega
    rw [List.countP_eq_zero] at h0
    have hsz := hway.1
    have : listed[i]'(by omega) = true := by
     have := h0 (listed[i]'(by omega)) (by simp)
     simpa using this
    simp [Array.getD, show i < listed.size from by omega, this] at h2
   exact ⟨hr, fin listed a w hway hr⟩
  | succ fuel ih =>
   intro listed a w hfuel hway
   refine ⟨fin listed a w hway, fun i hi => ?_⟩
   obtain ⟨h1, h2, h3⟩ := ready_spec hi
   have hsz := hway.1
   have his : i < listed.size := by omega
   have hfl : listed[i] = false := by simpa [Array.getD, his] using h2
   have hcount : (listed.setIfInBounds i true).toList.countP (fun b => !b) ≤ fuel := by
    have hli : listed.toList[i]'(by simpa using his) = false := by simpa using hfl
    have hpos : 0 < listed.toList.countP (fun b => !b) := List.countP_pos_iff.2 ⟨false, List.mem_of_getElem? (i := i) (by simp [his, hfl]), rfl⟩
    rw [Array.toList_setIfInBounds, List.countP_set (by simpa using his), hli]
    simp only [Bool.not_false, Bool.not_true, if_true, Bool.false_eq_true, if_false]
    omega
   have hsz' : (listed.setIfInBounds i true).size = ops.size := by simp [hsz]
   have hnew : ∀ j, (listed.setIfInBounds i true).getD j false = if j = i then true else listed.getD j false := by
    intro j
    by_cases hj : j < listed.size
    ·by_cases hji : j = i
     ·subst hji; simp [Array.getD, hj]
     ·simp [Array.getD, hj, hji, Array.getElem_setIfInBounds, Ne.symm hji]
    ·have : j ≠ i := by omega
     simp [Array.getD, hj, this]
   obtain ⟨_, hcl, hb, x, rfl, hx'⟩ := hway
   have hli : listed.getD i false = false := by rw [getD_tf his false true]; exact h2
   have hcl' : ∀ k o, ops[k]? = some o → (listed.setIfInBounds i true).getD k false = true → ∀ e ∈ o.after, Region.binds .any e = true → (listed.setIfInBounds i true).getD e.on false = true := by
    intro k o hk hl e he hb
    rw [hnew] at hl ⊢
    by_cases hei : e.on = i
    ·rw [if_pos hei]
    ·rw [if_neg hei]
     by_cases hki : k = i
     ·subst hki; exact h3 o hk e he hb
     ·rw [if_neg hki] at hl; exact hcl k o hk hl e he hb
   obtain ⟨o, ho1, ho2, hd⟩ := hget i h1
   have hst := Each.at_ _ 0 i o hstep ho2
   simp only [Nat.zero_add] at hst
   have hseen : ∀ j, (waits o j || decide (ops.size ≤ j)) = true → safe ops dead i j = true → V j x w := by
    intro j hj hsafe
    simp only [safe, List.all_eq_true, Bool.or_eq_true, Bool.not_eq_true', beq_eq_false_iff_ne, beq_iff_eq] at hsafe
    have hlj : j < ops.size → listed.getD j false = true := by
     intro hjs
     rw [Bool.or_eq_true] at hj
     rcases hj with hj | hj
     ·simp only [waits, List.any_eq_true, Bool.and_eq_true, beq_iff_eq] at hj
      obtain ⟨e, he, hbd, rfl⟩ := hj
      exact h3 o ho1 e (by simpa using he) hbd
     ·exact absurd hjs (by simpa using hj)
    refine hx' j hlj (fun k hk hlk => ?_)
    cases hdd : dead.contains (k, j) with
    | false => rfl
    | true =>
     exfalso
     have hmem : (k, j) ∈ dead := by simpa using hdd
     rcases hsafe _ hmem with (h | h) | h
     ·exact h rfl
     ·simp only at h; subst h; rw [hli] at hlk; cases hlk
     ·have := reach_spec hcl 6 k i (fun o' ho' e' he' hb' => hcl k o' ho' hlk e' he' hb') h
      rw [hli] at this
      cases this
   have hds : ∀ t, ds.getD i none = some t → t ∈ slotsOf ds := by
    intro t ht
    refine List.mem_filterMap.2 ⟨some t, ?_, rfl⟩
    rw [List.getD_eq_getElem?_getD] at ht
    cases hq : ds[i]? with
    | none => rw [hq] at ht; cases ht
    | some u => rw [hq] at ht; simp at ht; subst ht; exact List.mem_of_getElem? hq
   refine wpOp_of_list ho1 (hst x w hb hseen _ (fun v w' hor hv => ?_))
   rw [← frame_putG (slotsOf ds) x a0 (ds.getD i none) v hds]
   rw [frame_putG (slotsOf ds) x a0 (ds.getD i none) v hds]
   have hkeep : Base w' ∧ ∀ j x, dead.contains (i, j) = false → j ≠ i → V j x w → V j x w' := by
    rcases hor with h | h
    ·exact ⟨hB _ _ h hb, fun j x _ _ hv => hV j x w w' h hv⟩
    ·exact h
   refine ih _ _ w' hcount ⟨hsz', hcl', hkeep.1, _, rfl, fun j hlj hdj => ?_⟩
   by_cases hji : j = i
   ·subst hji; exact hv
   ·have hlj' : j < ops.size → listed.getD j false = true := fun hj => by
     have := hlj hj
     rwa [hnew, if_neg hji] at this
    have hold := hx' j hlj' (fun k hk hlk => hdj k hk (by rw [hnew]; split; rfl; exact hlk))
    have hdi := hdj i h1 (by rw [hnew]; simp)
    refine hx j x _ w' (fun t ht => ?_) (hkeep.2 j x hdi hji hold)
    cases hdi' : ds.getD i none with
    | none => rfl
    | some d =>
     simp only [setSlot]
     by_cases htd : t = d
     ·subst htd
      exfalso
      by_cases hj : j < ops.size
      ·rcases huse j hj t ht i h1 with (h | h) | h
       ·exact hji h.symm
       ·rw [hdi'] at h; simp at h
       ·have := reach_spec hcl 6 j i (fun o' ho' e' he' hb' => hcl j o' ho' (hlj' hj) e' he' hb') h
        rw [hli] at this
        cases this
      ·have hjl : j < uses.length := by
        rcases Nat.lt_or_ge j uses.length with h | h
        ·exact h
        ·rw [List.getD_eq_getElem?_getD, List.getElem?_eq_none h] at ht; cases ht
       rcases huse0 j hjl with h | h
       ·exact hj h
       ·rcases h t ht i h1 with h | h
        ·rw [hdi'] at h; simp at h
        ·rw [h] at hdi; cases hdi
     ·rw [if_neg htd]
 refine wp_region_any hm (main ops.size _ a0 _ ?_ ⟨by simp, fun i o _ hl => absurd hl (by simp [Array.getD]), hB _ _ ((Below.refl _ w0).drew) h0, _, (frame_self (slotsOf ds) a0).symm, fun j hl _ => ?_⟩)
 ·have := List.countP_le_length (p := fun b => !b) (l := (Array.replicate ops.size false).toList)
  simpa using this
 ·rcases Nat.lt_or_ge j ops.size with h | h
  ·have := hl h
   simp [Array.getD] at this
  ·exact hV _ _ _ _ ((Below.refl _ w0).drew) (h00 j h)
end
theorem fill_append (ds : List Nat) (x : Nat → Value) : ∀ (l r : List Value) (t : Nat), fill ds x t (l ++ r) = fill ds x t l ++ fill ds x (t + l.length) r
 | [], r, t => by simp [fill]
 | v :: l, r, t => by
  simp only [List.cons_append, fill, fill_append ds x l r (t + 1), List.length_cons]
  rw [show t + 1 + l.length = t + (l.length + 1) by omega]
theorem fill_out (ds : List Nat) (x : Nat → Value) : ∀ (l : List Value) (t : Nat), (∀ i, t ≤ i → i < t + l.length → ds.contains i = false) → fill ds x t l = l
 | [], t, _ => rfl
 | v :: l, t, h => by
  have h0 := h t (Nat.le_refl _) (by simp)
  simp only [fill, h0, Bool.false_eq_true, if_false]
  rw [fill_out ds x l (t + 1) (fun i h1 h2 => h i (by omega) (by simp; omega))]
theorem fill_in (ds : List Nat) (x : Nat → Value) : ∀ (l : List Value) (t : Nat), (∀ i, t ≤ i → i < t + l.length → ds.contains i = true) → fill ds x t l = (List.range' t l.length).map x
 | [], t, _ => rfl
 | v :: l, t, h => by
  have h0 := h t (Nat.le_refl _) (by simp)
  simp only [fill, h0, if_true, List.length_cons, List.range'_succ, List.map_cons]
  rw [fill_in ds x l (t + 1) (fun i h1 h2 => h i (by omega) (by simp; omega))]
theorem frameOf_run {ds : List Nat} (a n : Nat) (hds : ds = List.range' a n) (x : Nat → Value) (l : List Value) (df : _) (hl : decide (a + n ≤ l.length) = true) :
  frameOf ds x ⟨l.toArray, df⟩ = ⟨(l.take a ++ ((List.range' a n).map x ++ l.drop (a + n))).toArray, df⟩ := by
 have hl' : a + n ≤ l.length := by simpa using hl
 subst hds
 have e : l = l.take a ++ ((l.drop a).take n ++ l.drop (a + n)) := by
  rw [show l.drop (a + n) = (l.drop a).drop n by simp [List.drop_drop], List.take_append_drop, List.take_append_drop]
 unfold frameOf
 simp only
 congr 2
 conv => lhs; rw [e]
 have l1 : (l.take a).length = a := by simp; omega
 have l2 : ((l.drop a).take n).length = n := by simp; omega
 have c : ∀ i, (List.range' a n).contains i = (decide (a ≤ i) && decide (i < a + n)) := by
  intro i
  rw [Bool.eq_iff_iff, List.contains_iff_mem, List.mem_range'_1]
  simp
 rw [fill_append, fill_append, l1, l2, fill_out _ _ (l.take a) 0 (fun i h1 h2 => by rw [c]; simp; omega),
  fill_in _ _ ((l.drop a).take n) (0 + a) (fun i h1 h2 => by rw [c]; simp; omega), fill_out _ _ (l.drop (a + n)) _ (fun i h1 h2 => by rw [c]; simp; omega), l2, Nat.zero_add]
section
variable {P : Program} {ops : Array Oper} {Q : Exit → Act → World → Prop}
def runOf (a n : Nat) (x : Nat → Value) (l : List Value) : Array Value := (l.take a ++ ((List.range' a n).map x ++ l.drop (a + n))).toArray
theorem wp_region_partsR {id : Nat} {l : List Value} {df : _} {w0 : World} (a n : Nat) (hm : P.follows .mixedOrders = true) (ds : List (Option Nat)) (V : Nat → (Nat → Value) → World → Prop) (uses : List (List Nat)) (dead : List (Nat × Nat)) (Base : World → Prop)
  (hok : partsOkW ops ds uses dead l.length = true) (hds : slotsOf ds = List.range' a n) (hl : decide (a + n ≤ l.length) = true)
  (hx : ∀ j x x' w, (∀ t ∈ uses.getD j [], x t = x' t) → V j x w → V j x' w)
  (hV : ∀ j x w w', Below w.heap.size w w' → V j x w → V j x w')
  (hB : ∀ w w', Below w.heap.size w w' → Base w → Base w') (h0 : Base w0) (h00 : ∀ j, ops.size ≤ j → V j (fun t => l.toArray.getD t undef) w0)
  (hstep : Each (fun i o => ∀ (x : Nat → Value) (w : World), Base w → (∀ j, (waits o j || decide (ops.size ≤ j)) = true → safe ops dead i j = true → V j x w) →
   ∀ K : Act → World → Prop, (∀ v w', (Below w.heap.size w w' ∨ Base w' ∧ ∀ j x, dead.contains (i, j) = false → j ≠ i → V j x w → V j x w') → V i (setSlot x (ds.getD i none) v) w' → K ⟨runOf a n (setSlot x (ds.getD i none) v) l, df⟩ w') →
    wpList P ops (Thence Q K) [o] ⟨runOf a n x l, df⟩ w) 0 ops.toList)
  (hend : ∀ (x : Nat → Value) (w : World), Base w → (∀ j, (∀ i, i < ops.size → dead.contains (i, j) = false) → V j x w) → Q .normal ⟨runOf a n x l, df⟩ w) :
  (Code.region id ops true).wp P Q ⟨l.toArray, df⟩ w0 := by
 have e : ∀ x, frameOf (slotsOf ds) x ⟨l.toArray, df⟩ = ⟨runOf a n x l, df⟩ := fun x => frameOf_run a n hds x l df hl
 refine wp_region_partsW hm ds V uses dead Base (by simpa using hok) hx hV hB h0 h00 ?_ ?_
 ·simp only [e]; exact hstep
 ·simp only [e]; exact hend
end
structure But (n : Nat) (L : List Nat) (w w' : World) : Prop where
 os : w'.os = w.os
 tape : w'.tape = w.tape
 output : w'.output = w.output
 size : w.heap.size ≤ w'.heap.size
 low : ∀ k, k < n → w'.heap[k]? = w.heap[k]?
 block : ∀ k, k < w.heap.size → k ∉ L → (∀ cs f, w.heap[k]? ≠ some (.cells cs 30 f)) → w'.heap[k]? = w.heap[k]?
theorem But.refl (n : Nat) (L : List Nat) (w : World) : But n L w w := ⟨rfl, rfl, rfl, Nat.le_refl _, fun _ _ => rfl, fun _ _ _ _ => rfl⟩
theorem But.up {n : Nat} {L : List Nat} {w w' w'' : World} (h : But n L w w') (hn : n ≤ w.heap.size) (hb : Below w'.heap.size w' w'') : But n L w w'' :=
  ⟨hb.os.trans h.os, hb.tape.trans h.tape, hb.output.trans h.output, Nat.le_trans h.size hb.size, fun k hk => (hb.block k (Nat.lt_of_lt_of_le hk (Nat.le_trans hn h.size))).trans (h.low k hk),
   fun k hk hL hne => (hb.block k (Nat.lt_of_lt_of_le hk h.size)).trans (h.block k hk hL hne)⟩
theorem But.listed {n : Nat} {L : List Nat} {w w' w'' : World} {b : Nat} (h : But n L w w') (hn : n ≤ w.heap.size) (hg : w'.grownBy w'' (some b)) (hL : b ∈ L) (hb : n ≤ b) : But n L w w'' :=
  ⟨hg.os.trans h.os, hg.tape.trans h.tape, hg.output.trans h.output, Nat.le_trans h.size hg.size, fun k hk => (hg.block k (Nat.lt_of_lt_of_le hk (Nat.le_trans hn h.size)) (fun e => by cases e; omega)).trans (h.low k hk),
   fun k hk hL' hne => (hg.block k (Nat.lt_of_lt_of_le hk h.size) (fun e => by cases e; exact hL' hL)).trans (h.block k hk hL' hne)⟩
theorem But.row {n : Nat} {L : List Nat} {w w' w'' : World} {v : Value} {B m : Nat} {xs : List Value} (h : But n L w w') (hn : n ≤ w.heap.size) (hr : w'.ownsRow B 30 5 v m xs) (hB : n ≤ B) (hg : w'.grownBy w'' v.ownBlock) : But n L w w'' := by
 have hk : ∀ k, v.ownBlock = some k → n ≤ k ∧ ∃ cur, w'.heap[k]? = some (.cells cur 30 (0, 0)) := by
  obtain ⟨_, ⟨rfl, _⟩ | ⟨g, cap, cur, rfl, hBg, hgg, _⟩⟩ := hr
  ·intro k hk; cases hk
  ·intro k hk; cases hk; exact ⟨Nat.le_trans hB hBg, cur, hgg⟩
 refine ⟨hg.os.trans h.os, hg.tape.trans h.tape, hg.output.trans h.output, Nat.le_trans h.size hg.size, fun k hkn => ?_, fun k hkw hL hne => ?_⟩
 ·refine (hg.block k (Nat.lt_of_lt_of_le hkn (Nat.le_trans hn h.size)) (fun e => ?_)).trans (h.low k hkn)
  have := (hk k e.symm).1
  omega
 ·have e := h.block k hkw hL hne
  refine (hg.block k (Nat.lt_of_lt_of_le hkw h.size) (fun e' => ?_)).trans e
  obtain ⟨_, cur, hc⟩ := hk k e'.symm
  exact hne cur (0, 0) (e ▸ hc)
theorem But.trans {n : Nat} {L : List Nat} {w w' w'' : World} (h : But n L w w') (hn : n ≤ w.heap.size) (h2 : But n L w' w'') : But n L w w'' :=
  ⟨h2.os.trans h.os, h2.tape.trans h.tape, h2.output.trans h.output, Nat.le_trans h.size h2.size, fun k hk => (h2.low k hk).trans (h.low k hk),
   fun k hk hL hne => by
    have e := h.block k hk hL hne
    exact (h2.block k (Nat.lt_of_lt_of_le hk h.size) hL (fun cs f => by rw [e]; exact hne cs f)).trans e⟩
theorem But.below {n : Nat} {L : List Nat} {w w' : World} (h : But n L w w') : Below n w w' := ⟨h.os, h.tape, h.output, h.size, h.low⟩
theorem Holds.but {n : Nat} {L : List Nat} {w w' : World} {B : Nat} {t : TypeId} {cs : Array Value} (h : Holds w B t cs) (b : But n L w w') (hL : B ∉ L) (ht : t ≠ 30) : Holds w' B t cs :=
 (b.block B h.lt hL (fun cs' f e => by have := h.symm.trans e; simp at this; first | exact ht this.2 | exact ht this.2.1)).trans h
theorem OwnGrades.but {n : Nat} {L : List Nat} {w w' : World} {B : Nat} {v : Value} {gs : List Gr} (h : OwnGrades w B v gs) (b : But n L w w') (hL : ∀ l ∈ L, ∀ cs f, w.heap[l]? ≠ some (.cells cs 128 f)) : OwnGrades w' B v gs := by
 obtain ⟨hl, h | ⟨g, cap, cur, ev, hB, hg, r⟩⟩ := h
 ·exact ⟨hl, .inl h⟩
 ·exact ⟨hl, .inr ⟨g, cap, cur, ev, hB, (b.block g (Array.getElem?_eq_some_iff.1 hg).1 (fun hm => hL g hm _ _ hg) (fun cs' f e => by have := hg.symm.trans e; simp at this)).trans hg, r⟩⟩
theorem row_other_block {w w' : World} {B m b : Nat} {v : Value} {xs : List Value} {t : TypeId} {cs : Array Value} (h : w.ownsRow B 30 5 v m xs) (s : Holds w b t cs) (ht : t ≠ 30) (g : w.grownBy w' (some b)) : w'.ownsRow B 30 5 v m xs := by
 obtain ⟨hl, h | ⟨k, cap, cur, ev, hB, hg, r⟩⟩ := h
 ·exact ⟨hl, .inl h⟩
 ·exact ⟨hl, .inr ⟨k, cap, cur, ev, hB, (g.block k (Array.getElem?_eq_some_iff.1 hg).1 (fun e => by cases e; have := s.symm.trans hg; simp at this; first | exact ht this.2 | exact ht this.2.1)).trans hg, r⟩⟩
theorem Holds.row_turned {w w' : World} {B m b : Nat} {v : Value} {xs : List Value} {t : TypeId} {cs : Array Value} (s : Holds w b t cs) (h : w.ownsRow B 30 5 v m xs) (ht : t ≠ 30) (g : w.grownBy w' v.ownBlock) : Holds w' b t cs := by
 refine (g.block b s.lt (fun e => ?_)).trans s
 obtain ⟨_, ⟨rfl, _⟩ | ⟨k, cap, cur, rfl, _, hg, _⟩⟩ := h
 ·cases e
 ·cases e; have := s.symm.trans hg; simp at this; first | exact ht this.2 | exact ht this.2.1
end Go.Proofs.Ytdpgfaikmahmpaa
