
import Derived.Test.YtokafjkinkafiaaGreatVAA
import Derived.Test.YtokafjkinkafiaaGreatVAE
set_option linter.unusedSimpArgs false
set_option linter.unusedVariables false
namespace Go.Proofs.YtokafjkinkafiaaGreat
open Go.RowKit
def coolAt (cool : Int) (l : List Int) (k : Nat) (s : Int × Int) : Int × Int := if l.contains (k : Int) then (min s.1 cool, min s.2 cool) else s
def CoolTo (cool : Int) (l : List Int) (ws0 ws : List (Int × Int)) : Prop := ws.length = 4 ∧ ∀ k s, ws0[k]? = some s → ws[k]? = some (coolAt cool l k s)
theorem cool_nil {cool : Int} {ws : List (Int × Int)} (h : ws.length = 4) : CoolTo cool [] ws ws := ⟨h, fun k s hs => by rw [hs]; rfl⟩
theorem cool_step {cool : Int} {l : List Int} {ws0 ws : List (Int × Int)} {j : Nat} {s : Int × Int} (h : CoolTo cool l ws0 ws) (h0 : ws0.length = 4) (hs : ws[j]? = some s) : CoolTo cool (l ++ [(j : Int)]) ws0 (ws.set j (min s.1 cool, min s.2 cool)) := by
 refine ⟨by rw [List.length_set]; exact h.1, fun k t ht => ?_⟩
 have hk := h.2 k t ht
 by_cases e : k = j
 ·subst e
  rw [hs] at hk
  cases hk
  rw [List.getElem?_set_self (List.getElem?_eq_some_iff.1 hs).1]
  unfold coolAt
  by_cases hc : (k : Int) ∈ l
  ·first | (simp [hc]; done) | (simp [hc]; omega)
  ·simp [hc]
 ·rw [List.getElem?_set_ne (fun e' => e e'.symm), hk]
  unfold coolAt
  have e2 : ((l ++ [(j : Int)]).contains (k : Int)) = l.contains (k : Int) := by
   have : ¬ (k : Int) = (j : Int) := by omega
   simp [this]
  rw [e2]
def warmAt (b : Br) (bs : List Bn) (l : List Int) (k : Nat) (s : Int × Int) : Int × Int := match bs[k]? with
 | some x => ((coolAt b.cool l k s).1 + b.rise x.lo, (coolAt b.cool l k s).2 + b.rise x.hi)
 | none => coolAt b.cool l k s
def WarmTo (b : Br) (bs : List Bn) (l : List Int) (n : Nat) (ws0 ws : List (Int × Int)) : Prop := ws.length = 4 ∧ ∀ k s, ws0[k]? = some s → ws[k]? = some (if k < n then warmAt b bs l k s else coolAt b.cool l k s)
theorem warm_step2 {b : Br} {bs : List Bn} {l : List Int} {n : Nat} {ws0 ws : List (Int × Int)} {s : Int × Int} {x : Bn} (h : WarmTo b bs l n ws0 ws) (h0 : ws0.length = 4) (hx : bs[n]? = some x) (hs : ws[n]? = some s) : WarmTo b bs l (n + 1) ws0 (ws.set n (s.1 + b.rise x.lo, s.2 + b.rise x.hi)) := by
 refine ⟨by rw [List.length_set]; exact h.1, fun k t ht => ?_⟩
 have hk := h.2 k t ht
 by_cases e : k = n
 ·subst e
  rw [if_neg (by omega), hs] at hk
  cases hk
  rw [List.getElem?_set_self (List.getElem?_eq_some_iff.1 hs).1, if_pos (by omega)]
  unfold warmAt
  rw [hx]
 ·rw [List.getElem?_set_ne (fun e' => e e'.symm), hk]
  by_cases hlt : k < n
  ·rw [if_pos hlt, if_pos (by omega)]
  ·rw [if_neg hlt, if_neg (by omega)]
def Mild (m : Int) (ws : List (Int × Int)) : Prop := ∀ (k : Nat) (s : Int × Int), ws[k]? = some s → 0 ≤ s.1 ∧ s.1 ≤ m ∧ 0 ≤ s.2 ∧ s.2 ≤ m
theorem Mild.cool {m cool : Int} {l : List Int} {ws0 ws : List (Int × Int)} (h : Mild m ws0) (h0 : ws0.length = 4) (hc : 0 ≤ cool) (hw : CoolTo cool l ws0 ws) : Mild m ws := by
 intro k s hs
 have hk : k < 4 := by have := (List.getElem?_eq_some_iff.1 hs).1; rw [hw.1] at this; exact this
 obtain ⟨t, ht⟩ : ∃ z, ws0[k]? = some z := ⟨_, List.getElem?_eq_getElem (by omega)⟩
 have e := hw.2 k t ht
 rw [hs] at e
 cases e
 have := h k t ht
 unfold coolAt
 split <;> refine ⟨?_, ?_, ?_, ?_⟩ <;> (try dsimp only) <;> omega
set_option maxRecDepth 100000 in
set_option maxHeartbeats 40000000 in
theorem warmer_any (b : Br) (A : Option Addr) (c : Nat) (bs : List Bn) (hE : barnErr b bs = 0) (s0 s1 s2 s3 : Int × Int) (m : Int) (hm0 : 0 ≤ m) (hm1 : m ≤ 1000000) (hmild : Mild m [s0, s1, s2, s3]) (LA : Option Addr) (lc : Nat) (l : List Int) (w : World) (hA : BinsAt w A bs) (hL : IntsAt w LA l) (hll : l.length ≤ 1000) (hin : ∀ z ∈ l, within z 0 ((bs.length : Int) - 1) = true) :
  Calls Tryz.prog 45 #[.agg #[.int .i64 b.cool, .int .i64 b.gangs, .int .i64 b.r0, .int .i64 b.r1, .int .i64 b.r2, .int .i64 b.r3, .int .i64 b.r4, .int .i64 b.r5, .slice A bs.length c], .agg #[.int .i64 s0.1, .int .i64 s0.2, .int .i64 s1.1, .int .i64 s1.2, .int .i64 s2.1, .int .i64 s2.2, .int .i64 s3.1, .int .i64 s3.2], .slice LA l.length lc] w fun e w' => ∃ ws, e = .returned (.agg (ws.flatMap spCells).toArray) ∧ WarmTo b bs l bs.length [s0, s1, s2, s3] ws ∧ Below w.heap.size w w' := by
 have hgood := barn_right hE
 have hn4 : bs.length ≤ 4 := by have := hgood.1; simp only [within, Bool.and_eq_true, decide_eq_true_eq] at this; omega
 have hc0 : 0 ≤ b.cool ∧ b.cool ≤ 60 := by have := hgood.2.1; simpa only [within, Bool.and_eq_true, decide_eq_true_eq] using this
 obtain ⟨hc0, hc60⟩ := hc0
 clear hgood
 have HE := Lib.hid hE
 have HMI := Lib.hid hmild
 have HA := Lib.hid hA
 have HL := Lib.hid hL
 have HIN := Lib.hid hin
 clear hE hmild hA hL hin
 go_enter Tryz.func45, Tryz.ntmps45
 go_wp2_with fail
 go_loopw [13] (fun v13 wr => ∃ (i : Nat) (ws : List (Int × Int)), v13 = .int .i64 (i : Int) ∧ i ≤ l.length ∧ CoolTo b.cool (l.take i) [s0, s1, s2, s3] ws ∧ Holds wr w.heap.size 26 #[.int .i64 b.cool, .int .i64 b.gangs, .int .i64 b.r0, .int .i64 b.r1, .int .i64 b.r2, .int .i64 b.r3, .int .i64 b.r4, .int .i64 b.r5, .slice A bs.length c] ∧ Holds wr (w.heap.size + 1) 63 (ws.flatMap spCells).toArray ∧ Holds wr (w.heap.size + 1 + 1) 63 #[.int .i64 0, .int .i64 0, .int .i64 0, .int .i64 0, .int .i64 0, .int .i64 0, .int .i64 0, .int .i64 0] ∧ Below w.heap.size w wr) (fun v13 _ => l.length - (intOf v13).toNat)
 case atStart => exact ⟨0, [s0, s1, s2, s3], rfl, Nat.zero_le _, by rw [List.take_zero]; exact cool_nil rfl, (show Holds _ w.heap.size 26 #[.int .i64 b.cool, .int .i64 b.gangs, .int .i64 b.r0, .int .i64 b.r1, .int .i64 b.r2, .int .i64 b.r3, .int .i64 b.r4, .int .i64 b.r5, .slice A bs.length c] from by (repeat first | (with_reducible first | assumption | apply Holds.set4 | apply Holds.set2 | apply Holds.putL | ((refine Holds.new' _ _ ?_); (simp; done)) | refine Holds.alloc ?_ _ | refine Holds.drew ?_ | refine Holds.far ?_ (by simp only [ne_eq]; omega) _) | rfl)), (show Holds _ (w.heap.size + 1) 63 #[.int .i64 s0.1, .int .i64 s0.2, .int .i64 s1.1, .int .i64 s1.2, .int .i64 s2.1, .int .i64 s2.2, .int .i64 s3.1, .int .i64 s3.2] from by (repeat first | (with_reducible first | assumption | apply Holds.set4 | apply Holds.set2 | apply Holds.putL | ((refine Holds.new' _ _ ?_); (simp; done)) | refine Holds.alloc ?_ _ | refine Holds.drew ?_ | refine Holds.far ?_ (by simp only [ne_eq]; omega) _) | rfl)), (show Holds _ (w.heap.size + 1 + 1) 63 #[.int .i64 0, .int .i64 0, .int .i64 0, .int .i64 0, .int .i64 0, .int .i64 0, .int .i64 0, .int .i64 0] from by (repeat first | (with_reducible first | assumption | apply Holds.set4 | apply Holds.set2 | apply Holds.putL | ((refine Holds.new' _ _ ?_); (simp; done)) | refine Holds.alloc ?_ _ | refine Holds.drew ?_ | refine Holds.far ?_ (by simp only [ne_eq]; omega) _) | rfl)), zg⟩
 case round =>
  obtain ⟨i, ws, rfl, hi, hcool, hH3, hH4, hH6, hB⟩ := hrel
  have HB := Lib.hid hB
  have HH3 := Lib.hid hH3
  have HH4 := Lib.hid hH4
  have HH6 := Lib.hid hH6
  have HCO := Lib.hid hcool
  have k30 : wr.cell? ⟨w.heap.size, 0, none⟩ = some (.int .i64 b.cool) := hH3.cell 0
  have lt3 := hH3.lt
  have lt4 := hH4.lt
  have lt6 := hH6.lt
  clear hB hH3 hH4 hH6 hcool
  by_cases hlt : i < l.length
  ·have hlt' : (i : Int) < l.length := by omega
   obtain ⟨z, hz⟩ : ∃ z, l[i]? = some z := ⟨_, List.getElem?_eq_getElem hlt⟩
   obtain ⟨E1, o1, rfl, hcell⟩ := (HL.out.up HB.out) (by omega)
   have kz := hcell i z hz
   have lE := World.block_lt_of_cell? wr _ kz
   have hzin := HIN.out z (List.mem_of_getElem? hz)
   simp only [within, Bool.and_eq_true, decide_eq_true_eq] at hzin
   obtain ⟨hz0, hz1⟩ := hzin
   obtain ⟨j, rfl⟩ : ∃ j : Nat, z = (j : Int) := ⟨z.toNat, by omega⟩
   have hj4 : j < 4 := by omega
   have hj4' : (j : Int) < 4 := by omega
   obtain ⟨s, hs⟩ : ∃ t, ws[j]? = some t := ⟨_, List.getElem?_eq_getElem (by rw [HCO.out.1]; exact hj4)⟩
   have HS := Lib.hid hs
   have HTK : Hid (l.take (i + 1) = l.take i ++ [(j : Int)]) := Lib.hid (by rw [List.take_add_one, hz]; rfl)
   have HZL : Hid ((((ws.flatMap spCells).set (j * 2) (.int .i64 (min s.1 b.cool))).set (j * 2 + 1) (.int .i64 (min s.2 b.cool))) = (ws.set j (min s.1 b.cool, min s.2 b.cool)).flatMap spCells) := Lib.hid (set_two ws j _ _ (by rw [HCO.out.1]; exact hj4))
   clear hcell hz hs
   go_wp2_with fail
   rename_i Kc hKc
   have HSL := Lib.hid (show slotsOf [some 17, some 18, some 19, some 20, some 21, some 22, some 23, some 24, some 25, some 26, some 27, some 28, some 29, some 30, some 31, some 32, some 33, none] = [17, 18, 19, 20, 21, 22, 23, 24, 25, 26, 27, 28, 29, 30, 31, 32, 33] from rfl)
   refine wp_region_partsG (by kernel_rfl) [some 17, some 18, some 19, some 20, some 21, some 22, some 23, some 24, some 25, some 26, some 27, some 28, some 29, some 30, some 31, some 32, some 33, none] (fun jq xq w' => match jq with
    | 0 => xq 17 = .int .i64 (j : Int)
    | 1 => xq 18 = .int .i64 (j : Int)
    | 2 => xq 19 = .pointer (some ⟨w.heap.size + 1, j * 2, none⟩)
    | 3 => xq 20 = .pointer (some ⟨w.heap.size + 1, j * 2, none⟩)
    | 4 => xq 21 = .int .i64 s.1
    | 5 => xq 22 = .pointer (some ⟨w.heap.size, 0, none⟩)
    | 6 => xq 23 = .int .i64 b.cool
    | 7 => xq 24 = .int .i64 (min s.1 b.cool)
    | 8 => xq 25 = .int .i64 (j : Int)
    | 9 => xq 26 = .pointer (some ⟨w.heap.size + 1, j * 2, none⟩)
    | 10 => xq 27 = .pointer (some ⟨w.heap.size + 1, j * 2 + 1, none⟩)
    | 11 => xq 28 = .int .i64 s.2
    | 12 => xq 29 = .pointer (some ⟨w.heap.size, 0, none⟩)
    | 13 => xq 30 = .int .i64 b.cool
    | 14 => xq 31 = .int .i64 (min s.2 b.cool)
    | 15 => xq 32 = .agg #[.int .i64 (min s.1 b.cool), .int .i64 (min s.2 b.cool)]
    | 16 => xq 33 = .pointer (some ⟨w.heap.size + 1, j * 2, none⟩)
    | 17 => Holds w' (w.heap.size + 1) 63 ((ws.set j (min s.1 b.cool, min s.2 b.cool)).flatMap spCells).toArray
    | 18 => Holds w' (w.heap.size + 1) 63 (ws.flatMap spCells).toArray
    | _ => True) [[17], [18], [19], [20], [21], [22], [23], [24], [25], [26], [27], [28], [29], [30], [31], [32], [33], [], []] [(17, 18)] (fun w' => Below w.heap.size w w' ∧ wr.heap.size ≤ w'.heap.size ∧ Holds w' w.heap.size 26 #[.int .i64 b.cool, .int .i64 b.gangs, .int .i64 b.r0, .int .i64 b.r1, .int .i64 b.r2, .int .i64 b.r3, .int .i64 b.r4, .int .i64 b.r5, .slice A bs.length c] ∧ Holds w' (w.heap.size + 1 + 1) 63 #[.int .i64 0, .int .i64 0, .int .i64 0, .int .i64 0, .int .i64 0, .int .i64 0, .int .i64 0, .int .i64 0]) (by kernel_rfl)  ?_ ?_ (fun w' w'' hb g => ⟨g.1.trans (hb.mono g.1.size), Nat.le_trans g.2.1 hb.size, g.2.2.1.up hb, g.2.2.2.up hb⟩) (⟨HB.out, Nat.le_refl _, HH3.out, HH6.out⟩) ?_ ?_ ?_
   ·intro jq xq xq' wqq h hv
    match jq, h, hv with
    | 0, h, hv => show xq' 17 = .int .i64 (j : Int); rw [← h 17 (by decide)]; exact hv
    | 1, h, hv => show xq' 18 = .int .i64 (j : Int); rw [← h 18 (by decide)]; exact hv
    | 2, h, hv => show xq' 19 = .pointer (some ⟨w.heap.size + 1, j * 2, none⟩); rw [← h 19 (by decide)]; exact hv
    | 3, h, hv => show xq' 20 = .pointer (some ⟨w.heap.size + 1, j * 2, none⟩); rw [← h 20 (by decide)]; exact hv
    | 4, h, hv => show xq' 21 = .int .i64 s.1; rw [← h 21 (by decide)]; exact hv
    | 5, h, hv => show xq' 22 = .pointer (some ⟨w.heap.size, 0, none⟩); rw [← h 22 (by decide)]; exact hv
    | 6, h, hv => show xq' 23 = .int .i64 b.cool; rw [← h 23 (by decide)]; exact hv
    | 7, h, hv => show xq' 24 = .int .i64 (min s.1 b.cool); rw [← h 24 (by decide)]; exact hv
    | 8, h, hv => show xq' 25 = .int .i64 (j : Int); rw [← h 25 (by decide)]; exact hv
    | 9, h, hv => show xq' 26 = .pointer (some ⟨w.heap.size + 1, j * 2, none⟩); rw [← h 26 (by decide)]; exact hv
    | 10, h, hv => show xq' 27 = .pointer (some ⟨w.heap.size + 1, j * 2 + 1, none⟩); rw [← h 27 (by decide)]; exact hv
    | 11, h, hv => show xq' 28 = .int .i64 s.2; rw [← h 28 (by decide)]; exact hv
    | 12, h, hv => show xq' 29 = .pointer (some ⟨w.heap.size, 0, none⟩); rw [← h 29 (by decide)]; exact hv
    | 13, h, hv => show xq' 30 = .int .i64 b.cool; rw [← h 30 (by decide)]; exact hv
    | 14, h, hv => show xq' 31 = .int .i64 (min s.2 b.cool); rw [← h 31 (by decide)]; exact hv
    | 15, h, hv => show xq' 32 = .agg #[.int .i64 (min s.1 b.cool), .int .i64 (min s.2 b.cool)]; rw [← h 32 (by decide)]; exact hv
    | 16, h, hv => show xq' 33 = .pointer (some ⟨w.heap.size + 1, j * 2, none⟩); rw [← h 33 (by decide)]; exact hv
    | 17, h, hv => exact hv
    | 18, h, hv => exact hv
    | _ + 19, _, _ => trivial
   ·intro jq xq wqq w' hb' hv
    match jq, hv with
    | 0, hv => exact hv
    | 1, hv => exact hv
    | 2, hv => exact hv
    | 3, hv => exact hv
    | 4, hv => exact hv
    | 5, hv => exact hv
    | 6, hv => exact hv
    | 7, hv => exact hv
    | 8, hv => exact hv
    | 9, hv => exact hv
    | 10, hv => exact hv
    | 11, hv => exact hv
    | 12, hv => exact hv
    | 13, hv => exact hv
    | 14, hv => exact hv
    | 15, hv => exact hv
    | 16, hv => exact hv
    | 17, h0 => exact h0.up hb'
    | 18, h0 => exact h0.up hb'
    | _ + 19, _ => trivial
   ·intro jq hj
    match jq, hj with
    | 0, hj => exact absurd hj (by decide)
    | 1, hj => exact absurd hj (by decide)
    | 2, hj => exact absurd hj (by decide)
    | 3, hj => exact absurd hj (by decide)
    | 4, hj => exact absurd hj (by decide)
    | 5, hj => exact absurd hj (by decide)
    | 6, hj => exact absurd hj (by decide)
    | 7, hj => exact absurd hj (by decide)
    | 8, hj => exact absurd hj (by decide)
    | 9, hj => exact absurd hj (by decide)
    | 10, hj => exact absurd hj (by decide)
    | 11, hj => exact absurd hj (by decide)
    | 12, hj => exact absurd hj (by decide)
    | 13, hj => exact absurd hj (by decide)
    | 14, hj => exact absurd hj (by decide)
    | 15, hj => exact absurd hj (by decide)
    | 16, hj => exact absurd hj (by decide)
    | 17, hj => exact absurd hj (by decide)
    | 18, _ => exact HH4.out
    | _ + 19, _ => trivial
   ·refine ⟨?_, ?_, ?_, ?_, ?_, ?_, ?_, ?_, ?_, ?_, ?_, ?_, ?_, ?_, ?_, ?_, ?_, ?_, trivial⟩
    ·intro xq w1 hb1 hx K hK0
     have hK := fun v w' hb => hK0 v w' (.inl hb)
     clear hx hKc hK0
     simp only [frameOf, fill, setSlot, sg, Nat.reduceBEq, if_true, if_false, Nat.reduceAdd, Nat.reduceEqDiff, HSL.out] at hK ⊢
     go_wp2_with (fail)
     exact hK _ _ (Below.refl _ _) rfl
    ·intro xq w1 hb1 hx K hK0
     have hK := fun v w' hb => hK0 v w' (.inl hb)
     clear hx hKc hK0
     simp only [frameOf, fill, setSlot, sg, Nat.reduceBEq, if_true, if_false, Nat.reduceAdd, Nat.reduceEqDiff, HSL.out] at hK ⊢
     go_wp2_with (fail)
     exact hK _ _ (Below.refl _ _) rfl
    ·intro xq w1 hb1 hx K hK0
     have hK := fun v w' hb => hK0 v w' (.inl hb)
     have e18 : xq 18 = .int .i64 (j : Int) := hx 1 (by rfl) (by rfl)
     clear hx hKc hK0
     simp only [frameOf, fill, setSlot, sg, Nat.reduceBEq, if_true, if_false, Nat.reduceAdd, Nat.reduceEqDiff, HSL.out] at hK ⊢
     simp only [e18] at hK ⊢
     clear e18
     go_wp2_with (fail)
     exact hK _ _ (Below.refl _ _) rfl
    ·intro xq w1 hb1 hx K hK0
     have hK := fun v w' hb => hK0 v w' (.inl hb)
     have e19 : xq 19 = .pointer (some ⟨w.heap.size + 1, j * 2, none⟩) := hx 2 (by rfl) (by rfl)
     clear hx hKc hK0
     simp only [frameOf, fill, setSlot, sg, Nat.reduceBEq, if_true, if_false, Nat.reduceAdd, Nat.reduceEqDiff, HSL.out] at hK ⊢
     simp only [e19] at hK ⊢
     clear e19
     go_wp2_with (fail)
     exact hK _ _ (Below.refl _ _) rfl
    ·intro xq w1 hb1 hx K hK0
     have hK := fun v w' hb => hK0 v w' (.inl hb)
     have e20 : xq 20 = .pointer (some ⟨w.heap.size + 1, j * 2, none⟩) := hx 3 (by rfl) (by rfl)
     have fi4_0 : Holds w1 (w.heap.size + 1) 63 (ws.flatMap spCells).toArray := hx 18 (by rfl) (by rfl)
     clear hx hKc hK0
     obtain ⟨q0, q1⟩ := warm_cell fi4_0 HS.out
     simp only [frameOf, fill, setSlot, sg, Nat.reduceBEq, if_true, if_false, Nat.reduceAdd, Nat.reduceEqDiff, HSL.out] at hK ⊢
     simp only [e20] at hK ⊢
     clear e20
     go_wp2_with (fail)
     exact hK _ _ (Below.refl _ _) rfl
    ·intro xq w1 hb1 hx K hK0
     have hK := fun v w' hb => hK0 v w' (.inl hb)
     clear hx hKc hK0
     simp only [frameOf, fill, setSlot, sg, Nat.reduceBEq, if_true, if_false, Nat.reduceAdd, Nat.reduceEqDiff, HSL.out] at hK ⊢
     go_wp2_with (fail)
     exact hK _ _ (Below.refl _ _) rfl
    ·intro xq w1 hb1 hx K hK0
     have hK := fun v w' hb => hK0 v w' (.inl hb)
     have e22 : xq 22 = .pointer (some ⟨w.heap.size, 0, none⟩) := hx 5 (by rfl) (by rfl)
     clear hx hKc hK0
     have q23 : w1.cell? ⟨w.heap.size, 0, none⟩ = some (.int .i64 b.cool) := hb1.2.2.1.cell 0
     simp only [frameOf, fill, setSlot, sg, Nat.reduceBEq, if_true, if_false, Nat.reduceAdd, Nat.reduceEqDiff, HSL.out] at hK ⊢
     simp only [e22] at hK ⊢
     clear e22
     go_wp2_with (fail)
     exact hK _ _ (Below.refl _ _) rfl
    ·intro xq w1 hb1 hx K hK0
     have hK := fun v w' hb => hK0 v w' (.inl hb)
     have e21 : xq 21 = .int .i64 s.1 := hx 4 (by rfl) (by rfl)
     have e23 : xq 23 = .int .i64 b.cool := hx 6 (by rfl) (by rfl)
     clear hx hKc hK0
     simp only [frameOf, fill, setSlot, sg, Nat.reduceBEq, if_true, if_false, Nat.reduceAdd, Nat.reduceEqDiff, HSL.out] at hK ⊢
     simp only [e21, e23] at hK ⊢
     clear e21 e23
     go_wp2_with (fail)
     all_goals exact hK _ _ (Below.refl _ _) (congrArg (Value.int .i64) (by omega))
    ·intro xq w1 hb1 hx K hK0
     have hK := fun v w' hb => hK0 v w' (.inl hb)
     clear hx hKc hK0
     simp only [frameOf, fill, setSlot, sg, Nat.reduceBEq, if_true, if_false, Nat.reduceAdd, Nat.reduceEqDiff, HSL.out] at hK ⊢
     go_wp2_with (fail)
     exact hK _ _ (Below.refl _ _) rfl
    ·intro xq w1 hb1 hx K hK0
     have hK := fun v w' hb => hK0 v w' (.inl hb)
     have e25 : xq 25 = .int .i64 (j : Int) := hx 8 (by rfl) (by rfl)
     clear hx hKc hK0
     simp only [frameOf, fill, setSlot, sg, Nat.reduceBEq, if_true, if_false, Nat.reduceAdd, Nat.reduceEqDiff, HSL.out] at hK ⊢
     simp only [e25] at hK ⊢
     clear e25
     go_wp2_with (fail)
     exact hK _ _ (Below.refl _ _) rfl
    ·intro xq w1 hb1 hx K hK0
     have hK := fun v w' hb => hK0 v w' (.inl hb)
     have e26 : xq 26 = .pointer (some ⟨w.heap.size + 1, j * 2, none⟩) := hx 9 (by rfl) (by rfl)
     clear hx hKc hK0
     simp only [frameOf, fill, setSlot, sg, Nat.reduceBEq, if_true, if_false, Nat.reduceAdd, Nat.reduceEqDiff, HSL.out] at hK ⊢
     simp only [e26] at hK ⊢
     clear e26
     go_wp2_with (fail)
     exact hK _ _ (Below.refl _ _) rfl
    ·intro xq w1 hb1 hx K hK0
     have hK := fun v w' hb => hK0 v w' (.inl hb)
     have e27 : xq 27 = .pointer (some ⟨w.heap.size + 1, j * 2 + 1, none⟩) := hx 10 (by rfl) (by rfl)
     have fi4_0 : Holds w1 (w.heap.size + 1) 63 (ws.flatMap spCells).toArray := hx 18 (by rfl) (by rfl)
     clear hx hKc hK0
     obtain ⟨q0, q1⟩ := warm_cell fi4_0 HS.out
     simp only [frameOf, fill, setSlot, sg, Nat.reduceBEq, if_true, if_false, Nat.reduceAdd, Nat.reduceEqDiff, HSL.out] at hK ⊢
     simp only [e27] at hK ⊢
     clear e27
     go_wp2_with (fail)
     exact hK _ _ (Below.refl _ _) rfl
    ·intro xq w1 hb1 hx K hK0
     have hK := fun v w' hb => hK0 v w' (.inl hb)
     clear hx hKc hK0
     simp only [frameOf, fill, setSlot, sg, Nat.reduceBEq, if_true, if_false, Nat.reduceAdd, Nat.reduceEqDiff, HSL.out] at hK ⊢
     go_wp2_with (fail)
     exact hK _ _ (Below.refl _ _) rfl
    ·intro xq w1 hb1 hx K hK0
     have hK := fun v w' hb => hK0 v w' (.inl hb)
     have e29 : xq 29 = .pointer (some ⟨w.heap.size, 0, none⟩) := hx 12 (by rfl) (by rfl)
     clear hx hKc hK0
     have q30 : w1.cell? ⟨w.heap.size, 0, none⟩ = some (.int .i64 b.cool) := hb1.2.2.1.cell 0
     simp only [frameOf, fill, setSlot, sg, Nat.reduceBEq, if_true, if_false, Nat.reduceAdd, Nat.reduceEqDiff, HSL.out] at hK ⊢
     simp only [e29] at hK ⊢
     clear e29
     go_wp2_with (fail)
     exact hK _ _ (Below.refl _ _) rfl
    ·intro xq w1 hb1 hx K hK0
     have hK := fun v w' hb => hK0 v w' (.inl hb)
     have e28 : xq 28 = .int .i64 s.2 := hx 11 (by rfl) (by rfl)
     have e30 : xq 30 = .int .i64 b.cool := hx 13 (by rfl) (by rfl)
     clear hx hKc hK0
     simp only [frameOf, fill, setSlot, sg, Nat.reduceBEq, if_true, if_false, Nat.reduceAdd, Nat.reduceEqDiff, HSL.out] at hK ⊢
     simp only [e28, e30] at hK ⊢
     clear e28 e30
     go_wp2_with (fail)
     all_goals exact hK _ _ (Below.refl _ _) (congrArg (Value.int .i64) (by omega))
    ·intro xq w1 hb1 hx K hK0
     have hK := fun v w' hb => hK0 v w' (.inl hb)
     have e24 : xq 24 = .int .i64 (min s.1 b.cool) := hx 7 (by rfl) (by rfl)
     have e31 : xq 31 = .int .i64 (min s.2 b.cool) := hx 14 (by rfl) (by rfl)
     clear hx hKc hK0
     simp only [frameOf, fill, setSlot, sg, Nat.reduceBEq, if_true, if_false, Nat.reduceAdd, Nat.reduceEqDiff, HSL.out] at hK ⊢
     simp only [e24, e31] at hK ⊢
     clear e24 e31
     go_wp2_with (fail)
     exact hK _ _ (Below.refl _ _) rfl
    ·intro xq w1 hb1 hx K hK0
     have hK := fun v w' hb => hK0 v w' (.inl hb)
     have e17 : xq 17 = .int .i64 (j : Int) := hx 0 (by rfl) (by rfl)
     clear hx hKc hK0
     simp only [frameOf, fill, setSlot, sg, Nat.reduceBEq, if_true, if_false, Nat.reduceAdd, Nat.reduceEqDiff, HSL.out] at hK ⊢
     simp only [e17] at hK ⊢
     clear e17
     go_wp2_with (fail)
     exact hK _ _ (Below.refl _ _) rfl
    ·intro xq w1 hb1 hx K hK0
     have hK := fun v w' hb => hK0 v w' (.inr hb)
     have e32 : xq 32 = .agg #[.int .i64 (min s.1 b.cool), .int .i64 (min s.2 b.cool)] := hx 15 (by rfl) (by rfl)
     have e33 : xq 33 = .pointer (some ⟨w.heap.size + 1, j * 2, none⟩) := hx 16 (by rfl) (by rfl)
     have fi4_0 : Holds w1 (w.heap.size + 1) 63 (ws.flatMap spCells).toArray := hx 18 (by rfl) (by rfl)
     clear hx hKc hK0
     obtain ⟨q0, q1⟩ := warm_cell fi4_0 HS.out
     have z0 := fi4_0.frozen (j * 2)
     have z1 := fi4_0.frozen (j * 2 + 1)
     have ltq := fi4_0.lt
     simp only [frameOf, fill, setSlot, sg, Nat.reduceBEq, if_true, if_false, Nat.reduceAdd, Nat.reduceEqDiff, HSL.out] at hK ⊢
     have E32 := Lib.hid e32
     have E33 := Lib.hid e33
     simp only [e32, e33] at hK ⊢
     clear e32 e33
     go_wp2_with (fail)
     refine hK undef _ ⟨(by have h := hb1; exact ⟨h.1.trans zg, by simp only [World.size_setCell]; exact h.2.1, (h.2.2.1.far (p := ⟨w.heap.size + 1, j * 2, none⟩) (by simp only [ne_eq]; omega) _).far (p := ⟨w.heap.size + 1, j * 2 + 1, none⟩) (by simp only [ne_eq]; omega) _, (h.2.2.2.far (p := ⟨w.heap.size + 1, j * 2, none⟩) (by simp only [ne_eq]; omega) _).far (p := ⟨w.heap.size + 1, j * 2 + 1, none⟩) (by simp only [ne_eq]; omega) _⟩), ?_⟩ (by have h := (fi4_0.setL (j * 2) (.int .i64 (min s.1 b.cool))).setL (j * 2 + 1) (.int .i64 (min s.2 b.cool)); rw [HZL.out] at h; exact h)
     intro jq xq hd hne hv
     match jq, hd, hne, hv with
     | 0, _, _, hv => exact hv
     | 1, _, _, hv => exact hv
     | 2, _, _, hv => exact hv
     | 3, _, _, hv => exact hv
     | 4, _, _, hv => exact hv
     | 5, _, _, hv => exact hv
     | 6, _, _, hv => exact hv
     | 7, _, _, hv => exact hv
     | 8, _, _, hv => exact hv
     | 9, _, _, hv => exact hv
     | 10, _, _, hv => exact hv
     | 11, _, _, hv => exact hv
     | 12, _, _, hv => exact hv
     | 13, _, _, hv => exact hv
     | 14, _, _, hv => exact hv
     | 15, _, _, hv => exact hv
     | 16, _, _, hv => exact hv
     | 17, _, hne, _ => exact absurd rfl hne
     | 18, hd, _, _ => exact absurd hd (by decide)
     | _ + 19, _, _, _ => trivial
   ·intro xq w1 hb1 hx
    have e17 : xq 17 = .int .i64 (j : Int) := hx 0 (by decide)
    have e18 : xq 18 = .int .i64 (j : Int) := hx 1 (by decide)
    have e19 : xq 19 = .pointer (some ⟨w.heap.size + 1, j * 2, none⟩) := hx 2 (by decide)
    have e20 : xq 20 = .pointer (some ⟨w.heap.size + 1, j * 2, none⟩) := hx 3 (by decide)
    have e21 : xq 21 = .int .i64 s.1 := hx 4 (by decide)
    have e22 : xq 22 = .pointer (some ⟨w.heap.size, 0, none⟩) := hx 5 (by decide)
    have e23 : xq 23 = .int .i64 b.cool := hx 6 (by decide)
    have e24 : xq 24 = .int .i64 (min s.1 b.cool) := hx 7 (by decide)
    have e25 : xq 25 = .int .i64 (j : Int) := hx 8 (by decide)
    have e26 : xq 26 = .pointer (some ⟨w.heap.size + 1, j * 2, none⟩) := hx 9 (by decide)
    have e27 : xq 27 = .pointer (some ⟨w.heap.size + 1, j * 2 + 1, none⟩) := hx 10 (by decide)
    have e28 : xq 28 = .int .i64 s.2 := hx 11 (by decide)
    have e29 : xq 29 = .pointer (some ⟨w.heap.size, 0, none⟩) := hx 12 (by decide)
    have e30 : xq 30 = .int .i64 b.cool := hx 13 (by decide)
    have e31 : xq 31 = .int .i64 (min s.2 b.cool) := hx 14 (by decide)
    have e32 : xq 32 = .agg #[.int .i64 (min s.1 b.cool), .int .i64 (min s.2 b.cool)] := hx 15 (by decide)
    have e33 : xq 33 = .pointer (some ⟨w.heap.size + 1, j * 2, none⟩) := hx 16 (by decide)
    have fn17_0 : Holds w1 (w.heap.size + 1) 63 ((ws.set j (min s.1 b.cool, min s.2 b.cool)).flatMap spCells).toArray := hx 17 (by decide)
    clear hx
    simp only [frameOf, fill, setSlot, sg, Nat.reduceBEq, if_true, if_false, Nat.reduceAdd, Nat.reduceEqDiff, HSL.out]
    simp only [e17, e18, e19, e20, e21, e22, e23, e24, e25, e26, e27, e28, e29, e30, e31, e32, e33]
    clear e17 e18 e19 e20 e21 e22 e23 e24 e25 e26 e27 e28 e29 e30 e31 e32 e33
    refine hKc _ _ ?_
    go_wp2_with fail
    go_roundw
    case rel => exact ⟨i + 1, _, by go_num, hlt, (by rw [HTK.out]; exact cool_step HCO.out rfl HS.out), hb1.2.2.1, fn17_0, hb1.2.2.2, hb1.1⟩
    case measure => first | (simp [intOf]; done) | (simp [intOf]; omega)
  ·have hil : i = l.length := by omega
   have hlt' : ¬ (i : Int) < l.length := by omega
   have HCF : Hid (CoolTo b.cool l [s0, s1, s2, s3] ws) := Lib.hid (by have h := HCO.out; rw [hil, List.take_length] at h; exact h)
   have HML := Lib.hid (HMI.out.cool rfl hc0 HCF.out)
   have k30' : wr.cell? ⟨w.heap.size, 0, none⟩ = some (.int .i64 b.cool) := HH3.out.cell 0
   have k31' : wr.cell? ⟨w.heap.size, 1, none⟩ = some (.int .i64 b.gangs) := HH3.out.cell 1
   have k32' : wr.cell? ⟨w.heap.size, 2, none⟩ = some (.int .i64 b.r0) := HH3.out.cell 2
   have k33' : wr.cell? ⟨w.heap.size, 3, none⟩ = some (.int .i64 b.r1) := HH3.out.cell 3
   have k34' : wr.cell? ⟨w.heap.size, 4, none⟩ = some (.int .i64 b.r2) := HH3.out.cell 4
   have k35' : wr.cell? ⟨w.heap.size, 5, none⟩ = some (.int .i64 b.r3) := HH3.out.cell 5
   have k36' : wr.cell? ⟨w.heap.size, 6, none⟩ = some (.int .i64 b.r4) := HH3.out.cell 6
   have k37' : wr.cell? ⟨w.heap.size, 7, none⟩ = some (.int .i64 b.r5) := HH3.out.cell 7
   have k38' : wr.cell? ⟨w.heap.size, 8, none⟩ = some (.slice A bs.length c) := HH3.out.cell 8
   go_wp2_with fail
   go_loopw [38] (fun v38 wz => ∃ (k : Nat) (us : List (Int × Int)), v38 = .int .i64 (k : Int) ∧ k ≤ bs.length ∧ WarmTo b bs l k [s0, s1, s2, s3] us ∧ Holds wz w.heap.size 26 #[.int .i64 b.cool, .int .i64 b.gangs, .int .i64 b.r0, .int .i64 b.r1, .int .i64 b.r2, .int .i64 b.r3, .int .i64 b.r4, .int .i64 b.r5, .slice A bs.length c] ∧ Holds wz (w.heap.size + 1) 63 (us.flatMap spCells).toArray ∧ Holds wz (w.heap.size + 1 + 1) 63 #[.int .i64 0, .int .i64 0, .int .i64 0, .int .i64 0, .int .i64 0, .int .i64 0, .int .i64 0, .int .i64 0] ∧ Below w.heap.size w wz) (fun v38 _ => bs.length - (intOf v38).toNat)
   case atStart => exact ⟨0, ws, rfl, Nat.zero_le _, ⟨HCF.out.1, fun k s hs => by rw [if_neg (Nat.not_lt_zero _)]; exact HCF.out.2 k s hs⟩, HH3.out, HH4.out, HH6.out, HB.out⟩
   case round =>
    rename World => wk
    obtain ⟨k, us, rfl, hk, hwarm, hG3, hG4, hG6, hBk⟩ := hrel
    have HBk := Lib.hid hBk
    have HG3 := Lib.hid hG3
    have HG4 := Lib.hid hG4
    have HG6 := Lib.hid hG6
    have HWA := Lib.hid hwarm
    clear hBk hG3 hG4 hG6 hwarm k30' k31' k32' k33' k34' k35' k36' k37' k38'
    clear k30 lt3 lt4 lt6
    have k30 : wk.cell? ⟨w.heap.size, 0, none⟩ = some (.int .i64 b.cool) := HG3.out.cell 0
    have k31 : wk.cell? ⟨w.heap.size, 1, none⟩ = some (.int .i64 b.gangs) := HG3.out.cell 1
    have k32 : wk.cell? ⟨w.heap.size, 2, none⟩ = some (.int .i64 b.r0) := HG3.out.cell 2
    have k33 : wk.cell? ⟨w.heap.size, 3, none⟩ = some (.int .i64 b.r1) := HG3.out.cell 3
    have k34 : wk.cell? ⟨w.heap.size, 4, none⟩ = some (.int .i64 b.r2) := HG3.out.cell 4
    have k35 : wk.cell? ⟨w.heap.size, 5, none⟩ = some (.int .i64 b.r3) := HG3.out.cell 5
    have k36 : wk.cell? ⟨w.heap.size, 6, none⟩ = some (.int .i64 b.r4) := HG3.out.cell 6
    have k37 : wk.cell? ⟨w.heap.size, 7, none⟩ = some (.int .i64 b.r5) := HG3.out.cell 7
    have k38 : wk.cell? ⟨w.heap.size, 8, none⟩ = some (.slice A bs.length c) := HG3.out.cell 8
    have lt3 := HG3.out.lt
    have lt4 := HG4.out.lt
    have lt6 := HG6.out.lt
    by_cases hkl : k < bs.length
    ·have hkl' : (k : Int) < bs.length := by omega
     have hk4 : (k : Int) < 4 := by omega
     obtain ⟨x, hx⟩ : ∃ t, bs[k]? = some t := ⟨_, List.getElem?_eq_getElem hkl⟩
     obtain ⟨p, q, hlo, hhi, hp6, hq6, -⟩ := good_bin HE.out hx
     obtain ⟨s, hs⟩ : ∃ t, us[k]? = some t := ⟨_, List.getElem?_eq_getElem (by rw [HWA.out.1]; omega)⟩
     have hr0 := riseOk_cases (rise_in (barn_right HE.out).2.2.2.1 x.lo)
     have hr1 := riseOk_cases (rise_in (barn_right HE.out).2.2.2.1 x.hi)
     obtain ⟨r0, hr0e⟩ : ∃ t, b.rise x.lo = t := ⟨_, rfl⟩
     obtain ⟨r1, hr1e⟩ : ∃ t, b.rise x.hi = t := ⟨_, rfl⟩
     rw [hr0e] at hr0
     rw [hr1e] at hr1
     have hr0' : 0 ≤ r0 ∧ r0 ≤ 20 := by omega
     have hr1' : 0 ≤ r1 ∧ r1 ≤ 20 := by omega
     clear hr0 hr1
     obtain ⟨t0, ht0⟩ : ∃ z, ([s0, s1, s2, s3] : List (Int × Int))[k]? = some z := ⟨_, List.getElem?_eq_getElem (by simp; omega)⟩
     have hsv := HWA.out.2 k t0 ht0
     rw [hs, if_neg (Nat.lt_irrefl k)] at hsv
     have hsm := HML.out k s (by rw [HCF.out.2 k t0 ht0]; exact hsv.symm)
     obtain ⟨b0, b1, b2, b3⟩ := hsm
     have HST : Hid (WarmTo b bs l (k + 1) [s0, s1, s2, s3] (us.set k (s.1 + r0, s.2 + r1))) := Lib.hid (by have h := warm_step2 HWA.out rfl hx hs; rw [hr0e, hr1e] at h; exact h)
     have HS0 := Lib.hid hs
     have HUL := Lib.hid HWA.out.1
     have HX := Lib.hid hx
     have HLO := Lib.hid hlo
     have HHI := Lib.hid hhi
     have HR0 : Hid (b.rise (p : Int) = r0) := Lib.hid (by rw [← hlo]; exact hr0e)
     have HR1 : Hid (b.rise (q : Int) = r1) := Lib.hid (by rw [← hhi]; exact hr1e)
     clear hx hs hlo hhi hsv ht0 hr0e hr1e
     go_wp2_with (go_at_call 26; refine (rises_any b A c bs _ (HA.out.up HBk.out) (by omega) k x HX.out p q HLO.out HHI.out hp6 hq6).mono ?_; rw [HR0.out, HR1.out]; rintro e w5 ⟨rfl, hb5⟩; have HB5 := Lib.hid (HBk.out.trans (hb5.mono HBk.out.size)); have HF3 := Lib.hid (HG3.out.up hb5); have HF4 := Lib.hid (HG4.out.up hb5); have HF6 := Lib.hid (HG6.out.up hb5); have ltk := hb5.size)
     rename_i Kc hKc
     have HSL := Lib.hid (show slotsOf [some 44, some 45, some 46, some 47, some 48, some 49, some 50, some 51, some 52, none] = [44, 45, 46, 47, 48, 49, 50, 51, 52] from rfl)
     refine wp_region_partsG (by kernel_rfl) [some 44, some 45, some 46, some 47, some 48, some 49, some 50, some 51, some 52, none] (fun jq xq w' => match jq with
      | 0 => xq 44 = .int .i64 (k : Int)
      | 1 => xq 45 = .pointer (some ⟨w.heap.size + 1, k * 2, none⟩)
      | 2 => xq 46 = .pointer (some ⟨w.heap.size + 1, k * 2, none⟩)
      | 3 => xq 47 = .int .i64 s.1
      | 4 => xq 48 = .pointer (some ⟨w5.heap.size, 0, none⟩)
      | 5 => xq 49 = .int .i64 r0
      | 6 => xq 50 = .int .i64 (s.1 + r0)
      | 7 => xq 51 = .pointer (some ⟨w.heap.size + 1, k * 2, none⟩)
      | 8 => xq 52 = .pointer (some ⟨w.heap.size + 1, k * 2, none⟩)
      | 9 => Holds w' (w.heap.size + 1) 63 ((us.set k (s.1 + r0, s.2)).flatMap spCells).toArray
      | 10 => Holds w' (w.heap.size + 1) 63 (us.flatMap spCells).toArray
      | _ => True) [[44], [45], [46], [47], [48], [49], [50], [51], [52], [], []] [(9, 10)] (fun w' => Below w.heap.size w w' ∧ w5.heap.size + 1 ≤ w'.heap.size ∧ Holds w' w.heap.size 26 #[.int .i64 b.cool, .int .i64 b.gangs, .int .i64 b.r0, .int .i64 b.r1, .int .i64 b.r2, .int .i64 b.r3, .int .i64 b.r4, .int .i64 b.r5, .slice A bs.length c] ∧ Holds w' (w.heap.size + 1 + 1) 63 #[.int .i64 0, .int .i64 0, .int .i64 0, .int .i64 0, .int .i64 0, .int .i64 0, .int .i64 0, .int .i64 0] ∧ Holds w' w5.heap.size 40 #[.int .i64 r0, .int .i64 r1]) (by kernel_rfl)  ?_ ?_ (fun w' w'' hb g => ⟨g.1.trans (hb.mono g.1.size), Nat.le_trans g.2.1 hb.size, g.2.2.1.up hb, g.2.2.2.1.up hb, g.2.2.2.2.up hb⟩) (⟨HB5.out.trans zg, by (simp; done), HF3.out.alloc _, HF6.out.alloc _, Holds.new _ _ _⟩) ?_ ?_ ?_
     ·intro jq xq xq' wqq h hv
      match jq, h, hv with
      | 0, h, hv => show xq' 44 = .int .i64 (k : Int); rw [← h 44 (by decide)]; exact hv
      | 1, h, hv => show xq' 45 = .pointer (some ⟨w.heap.size + 1, k * 2, none⟩); rw [← h 45 (by decide)]; exact hv
      | 2, h, hv => show xq' 46 = .pointer (some ⟨w.heap.size + 1, k * 2, none⟩); rw [← h 46 (by decide)]; exact hv
      | 3, h, hv => show xq' 47 = .int .i64 s.1; rw [← h 47 (by decide)]; exact hv
      | 4, h, hv => show xq' 48 = .pointer (some ⟨w5.heap.size, 0, none⟩); rw [← h 48 (by decide)]; exact hv
      | 5, h, hv => show xq' 49 = .int .i64 r0; rw [← h 49 (by decide)]; exact hv
      | 6, h, hv => show xq' 50 = .int .i64 (s.1 + r0); rw [← h 50 (by decide)]; exact hv
      | 7, h, hv => show xq' 51 = .pointer (some ⟨w.heap.size + 1, k * 2, none⟩); rw [← h 51 (by decide)]; exact hv
      | 8, h, hv => show xq' 52 = .pointer (some ⟨w.heap.size + 1, k * 2, none⟩); rw [← h 52 (by decide)]; exact hv
      | 9, h, hv => exact hv
      | 10, h, hv => exact hv
      | _ + 11, _, _ => trivial
     ·intro jq xq wqq w' hb' hv
      match jq, hv with
      | 0, hv => exact hv
      | 1, hv => exact hv
      | 2, hv => exact hv
      | 3, hv => exact hv
      | 4, hv => exact hv
      | 5, hv => exact hv
      | 6, hv => exact hv
      | 7, hv => exact hv
      | 8, hv => exact hv
      | 9, h0 => exact h0.up hb'
      | 10, h0 => exact h0.up hb'
      | _ + 11, _ => trivial
     ·intro jq hj
      match jq, hj with
      | 0, hj => exact absurd hj (by decide)
      | 1, hj => exact absurd hj (by decide)
      | 2, hj => exact absurd hj (by decide)
      | 3, hj => exact absurd hj (by decide)
      | 4, hj => exact absurd hj (by decide)
      | 5, hj => exact absurd hj (by decide)
      | 6, hj => exact absurd hj (by decide)
      | 7, hj => exact absurd hj (by decide)
      | 8, hj => exact absurd hj (by decide)
      | 9, hj => exact absurd hj (by decide)
      | 10, _ => exact HF4.out.alloc _
      | _ + 11, _ => trivial
     ·refine ⟨?_, ?_, ?_, ?_, ?_, ?_, ?_, ?_, ?_, ?_, trivial⟩
      ·intro xq wx hbx hx K hK0
       have hK := fun v w' hb => hK0 v w' (.inl hb)
       clear hx hKc hK0
       simp only [frameOf, fill, setSlot, sg, Nat.reduceBEq, if_true, if_false, Nat.reduceAdd, Nat.reduceEqDiff, HSL.out] at hK ⊢
       go_wp2_with (fail)
       exact hK _ _ (Below.refl _ _) rfl
      ·intro xq wx hbx hx K hK0
       have hK := fun v w' hb => hK0 v w' (.inl hb)
       have e44 : xq 44 = .int .i64 (k : Int) := hx 0 (by rfl) (by rfl)
       clear hx hKc hK0
       simp only [frameOf, fill, setSlot, sg, Nat.reduceBEq, if_true, if_false, Nat.reduceAdd, Nat.reduceEqDiff, HSL.out] at hK ⊢
       simp only [e44] at hK ⊢
       clear e44
       go_wp2_with (fail)
       exact hK _ _ (Below.refl _ _) rfl
      ·intro xq wx hbx hx K hK0
       have hK := fun v w' hb => hK0 v w' (.inl hb)
       have e45 : xq 45 = .pointer (some ⟨w.heap.size + 1, k * 2, none⟩) := hx 1 (by rfl) (by rfl)
       clear hx hKc hK0
       simp only [frameOf, fill, setSlot, sg, Nat.reduceBEq, if_true, if_false, Nat.reduceAdd, Nat.reduceEqDiff, HSL.out] at hK ⊢
       simp only [e45] at hK ⊢
       clear e45
       go_wp2_with (fail)
       exact hK _ _ (Below.refl _ _) rfl
      ·intro xq wx hbx hx K hK0
       have hK := fun v w' hb => hK0 v w' (.inl hb)
       have e46 : xq 46 = .pointer (some ⟨w.heap.size + 1, k * 2, none⟩) := hx 2 (by rfl) (by rfl)
       have fi4_0 : Holds wx (w.heap.size + 1) 63 (us.flatMap spCells).toArray := hx 10 (by rfl) (by rfl)
       clear hx hKc hK0
       obtain ⟨q0, q1⟩ := warm_cell fi4_0 HS0.out
       simp only [frameOf, fill, setSlot, sg, Nat.reduceBEq, if_true, if_false, Nat.reduceAdd, Nat.reduceEqDiff, HSL.out] at hK ⊢
       simp only [e46] at hK ⊢
       clear e46
       go_wp2_with (fail)
       exact hK _ _ (Below.refl _ _) rfl
      ·intro xq wx hbx hx K hK0
       have hK := fun v w' hb => hK0 v w' (.inl hb)
       clear hx hKc hK0
       simp only [frameOf, fill, setSlot, sg, Nat.reduceBEq, if_true, if_false, Nat.reduceAdd, Nat.reduceEqDiff, HSL.out] at hK ⊢
       go_wp2_with (fail)
       exact hK _ _ (Below.refl _ _) rfl
      ·intro xq wx hbx hx K hK0
       have hK := fun v w' hb => hK0 v w' (.inl hb)
       have e48 : xq 48 = .pointer (some ⟨w5.heap.size, 0, none⟩) := hx 4 (by rfl) (by rfl)
       clear hx hKc hK0
       have q5 : wx.cell? ⟨w5.heap.size, 0, none⟩ = some (.int .i64 r0) := hbx.2.2.2.2.cell 0
       simp only [frameOf, fill, setSlot, sg, Nat.reduceBEq, if_true, if_false, Nat.reduceAdd, Nat.reduceEqDiff, HSL.out] at hK ⊢
       simp only [e48] at hK ⊢
       clear e48
       go_wp2_with (fail)
       exact hK _ _ (Below.refl _ _) rfl
      ·intro xq wx hbx hx K hK0
       have hK := fun v w' hb => hK0 v w' (.inl hb)
       have e47 : xq 47 = .int .i64 s.1 := hx 3 (by rfl) (by rfl)
       have e49 : xq 49 = .int .i64 r0 := hx 5 (by rfl) (by rfl)
       clear hx hKc hK0
       simp only [frameOf, fill, setSlot, sg, Nat.reduceBEq, if_true, if_false, Nat.reduceAdd, Nat.reduceEqDiff, HSL.out] at hK ⊢
       simp only [e47, e49] at hK ⊢
       clear e47 e49
       go_wp2_with (fail)
       exact hK _ _ (Below.refl _ _) rfl
      ·intro xq wx hbx hx K hK0
       have hK := fun v w' hb => hK0 v w' (.inl hb)
       have e44 : xq 44 = .int .i64 (k : Int) := hx 0 (by rfl) (by rfl)
       clear hx hKc hK0
       simp only [frameOf, fill, setSlot, sg, Nat.reduceBEq, if_true, if_false, Nat.reduceAdd, Nat.reduceEqDiff, HSL.out] at hK ⊢
       simp only [e44] at hK ⊢
       clear e44
       go_wp2_with (fail)
       exact hK _ _ (Below.refl _ _) rfl
      ·intro xq wx hbx hx K hK0
       have hK := fun v w' hb => hK0 v w' (.inl hb)
       have e51 : xq 51 = .pointer (some ⟨w.heap.size + 1, k * 2, none⟩) := hx 7 (by rfl) (by rfl)
       clear hx hKc hK0
       simp only [frameOf, fill, setSlot, sg, Nat.reduceBEq, if_true, if_false, Nat.reduceAdd, Nat.reduceEqDiff, HSL.out] at hK ⊢
       simp only [e51] at hK ⊢
       clear e51
       go_wp2_with (fail)
       exact hK _ _ (Below.refl _ _) rfl
      ·intro xq wx hbx hx K hK0
       have hK := fun v w' hb => hK0 v w' (.inr hb)
       have e50 : xq 50 = .int .i64 (s.1 + r0) := hx 6 (by rfl) (by rfl)
       have e52 : xq 52 = .pointer (some ⟨w.heap.size + 1, k * 2, none⟩) := hx 8 (by rfl) (by rfl)
       have fi4_0 : Holds wx (w.heap.size + 1) 63 (us.flatMap spCells).toArray := hx 10 (by rfl) (by rfl)
       clear hx hKc hK0
       obtain ⟨q0, q1⟩ := warm_cell fi4_0 HS0.out
       have z0 := fi4_0.frozen (k * 2)
       have ltq := fi4_0.lt
       simp only [frameOf, fill, setSlot, sg, Nat.reduceBEq, if_true, if_false, Nat.reduceAdd, Nat.reduceEqDiff, HSL.out] at hK ⊢
       have E50 := Lib.hid e50
       have E52 := Lib.hid e52
       simp only [e50, e52] at hK ⊢
       clear e50 e52
       go_wp2_with (fail)
       refine hK undef _ ⟨(by have h := hbx; exact ⟨h.1.trans zg, by simp only [World.size_setCell]; exact h.2.1, h.2.2.1.far (p := ⟨w.heap.size + 1, k * 2, none⟩) (by simp only [ne_eq]; omega) _, h.2.2.2.1.far (p := ⟨w.heap.size + 1, k * 2, none⟩) (by simp only [ne_eq]; omega) _, h.2.2.2.2.far (p := ⟨w.heap.size + 1, k * 2, none⟩) (by simp only [ne_eq]; omega) _⟩), ?_⟩ (by have h := fi4_0.setL (k * 2) (.int .i64 (s.1 + r0)); rw [set_lo us k s _ HS0.out] at h; exact h)
       intro jq xq hd hne hv
       match jq, hd, hne, hv with
       | 0, _, _, hv => exact hv
       | 1, _, _, hv => exact hv
       | 2, _, _, hv => exact hv
       | 3, _, _, hv => exact hv
       | 4, _, _, hv => exact hv
       | 5, _, _, hv => exact hv
       | 6, _, _, hv => exact hv
       | 7, _, _, hv => exact hv
       | 8, _, _, hv => exact hv
       | 9, _, hne, _ => exact absurd rfl hne
       | 10, hd, _, _ => exact absurd hd (by decide)
       | _ + 11, _, _, _ => trivial
     ·intro xq wx hbx hx
      have e44 : xq 44 = .int .i64 (k : Int) := hx 0 (by decide)
      have e45 : xq 45 = .pointer (some ⟨w.heap.size + 1, k * 2, none⟩) := hx 1 (by decide)
      have e46 : xq 46 = .pointer (some ⟨w.heap.size + 1, k * 2, none⟩) := hx 2 (by decide)
      have e47 : xq 47 = .int .i64 s.1 := hx 3 (by decide)
      have e48 : xq 48 = .pointer (some ⟨w5.heap.size, 0, none⟩) := hx 4 (by decide)
      have e49 : xq 49 = .int .i64 r0 := hx 5 (by decide)
      have e50 : xq 50 = .int .i64 (s.1 + r0) := hx 6 (by decide)
      have e51 : xq 51 = .pointer (some ⟨w.heap.size + 1, k * 2, none⟩) := hx 7 (by decide)
      have e52 : xq 52 = .pointer (some ⟨w.heap.size + 1, k * 2, none⟩) := hx 8 (by decide)
      have fn9_0 : Holds wx (w.heap.size + 1) 63 ((us.set k (s.1 + r0, s.2)).flatMap spCells).toArray := hx 9 (by decide)
      clear hx
      simp only [frameOf, fill, setSlot, sg, Nat.reduceBEq, if_true, if_false, Nat.reduceAdd, Nat.reduceEqDiff, HSL.out]
      simp only [e44, e45, e46, e47, e48, e49, e50, e51, e52]
      clear e44 e45 e46 e47 e48 e49 e50 e51 e52
      refine hKc _ _ ?_
      have HCW := Lib.hid fn9_0
      have hcb := hbx
      have lty := hbx.2.1
      have HUS : Hid ((us.set k (s.1 + r0, s.2))[k]? = some (s.1 + r0, s.2)) := Lib.hid (List.getElem?_set_self (by rw [HUL.out]; omega))
      clear hbx fn9_0
      go_wp2_with fail
      rename_i Kc hKc
      have HSL := Lib.hid (show slotsOf [some 53, some 54, some 55, some 56, some 57, some 58, some 59, some 60, some 61, none] = [53, 54, 55, 56, 57, 58, 59, 60, 61] from rfl)
      refine wp_region_partsG (by kernel_rfl) [some 53, some 54, some 55, some 56, some 57, some 58, some 59, some 60, some 61, none] (fun jq xq w' => match jq with
       | 0 => xq 53 = .int .i64 (k : Int)
       | 1 => xq 54 = .pointer (some ⟨w.heap.size + 1, k * 2, none⟩)
       | 2 => xq 55 = .pointer (some ⟨w.heap.size + 1, k * 2 + 1, none⟩)
       | 3 => xq 56 = .int .i64 s.2
       | 4 => xq 57 = .pointer (some ⟨w5.heap.size, 1, none⟩)
       | 5 => xq 58 = .int .i64 r1
       | 6 => xq 59 = .int .i64 (s.2 + r1)
       | 7 => xq 60 = .pointer (some ⟨w.heap.size + 1, k * 2, none⟩)
       | 8 => xq 61 = .pointer (some ⟨w.heap.size + 1, k * 2 + 1, none⟩)
       | 9 => Holds w' (w.heap.size + 1) 63 (((us.set k (s.1 + r0, s.2)).set k (s.1 + r0, s.2 + r1)).flatMap spCells).toArray
       | 10 => Holds w' (w.heap.size + 1) 63 ((us.set k (s.1 + r0, s.2)).flatMap spCells).toArray
       | _ => True) [[53], [54], [55], [56], [57], [58], [59], [60], [61], [], []] [(9, 10)] (fun w' => Below w.heap.size w w' ∧ w5.heap.size + 1 ≤ w'.heap.size ∧ Holds w' w.heap.size 26 #[.int .i64 b.cool, .int .i64 b.gangs, .int .i64 b.r0, .int .i64 b.r1, .int .i64 b.r2, .int .i64 b.r3, .int .i64 b.r4, .int .i64 b.r5, .slice A bs.length c] ∧ Holds w' (w.heap.size + 1 + 1) 63 #[.int .i64 0, .int .i64 0, .int .i64 0, .int .i64 0, .int .i64 0, .int .i64 0, .int .i64 0, .int .i64 0] ∧ Holds w' w5.heap.size 40 #[.int .i64 r0, .int .i64 r1]) (by kernel_rfl)  ?_ ?_ (fun w' w'' hb g => ⟨g.1.trans (hb.mono g.1.size), Nat.le_trans g.2.1 hb.size, g.2.2.1.up hb, g.2.2.2.1.up hb, g.2.2.2.2.up hb⟩) (hcb) ?_ ?_ ?_
      ·intro jq xq xq' wqq h hv
       match jq, h, hv with
       | 0, h, hv => show xq' 53 = .int .i64 (k : Int); rw [← h 53 (by decide)]; exact hv
       | 1, h, hv => show xq' 54 = .pointer (some ⟨w.heap.size + 1, k * 2, none⟩); rw [← h 54 (by decide)]; exact hv
       | 2, h, hv => show xq' 55 = .pointer (some ⟨w.heap.size + 1, k * 2 + 1, none⟩); rw [← h 55 (by decide)]; exact hv
       | 3, h, hv => show xq' 56 = .int .i64 s.2; rw [← h 56 (by decide)]; exact hv
       | 4, h, hv => show xq' 57 = .pointer (some ⟨w5.heap.size, 1, none⟩); rw [← h 57 (by decide)]; exact hv
       | 5, h, hv => show xq' 58 = .int .i64 r1; rw [← h 58 (by decide)]; exact hv
       | 6, h, hv => show xq' 59 = .int .i64 (s.2 + r1); rw [← h 59 (by decide)]; exact hv
       | 7, h, hv => show xq' 60 = .pointer (some ⟨w.heap.size + 1, k * 2, none⟩); rw [← h 60 (by decide)]; exact hv
       | 8, h, hv => show xq' 61 = .pointer (some ⟨w.heap.size + 1, k * 2 + 1, none⟩); rw [← h 61 (by decide)]; exact hv
       | 9, h, hv => exact hv
       | 10, h, hv => exact hv
       | _ + 11, _, _ => trivial
      ·intro jq xq wqq w' hb' hv
       match jq, hv with
       | 0, hv => exact hv
       | 1, hv => exact hv
       | 2, hv => exact hv
       | 3, hv => exact hv
       | 4, hv => exact hv
       | 5, hv => exact hv
       | 6, hv => exact hv
       | 7, hv => exact hv
       | 8, hv => exact hv
       | 9, h0 => exact h0.up hb'
       | 10, h0 => exact h0.up hb'
       | _ + 11, _ => trivial
      ·intro jq hj
       match jq, hj with
       | 0, hj => exact absurd hj (by decide)
       | 1, hj => exact absurd hj (by decide)
       | 2, hj => exact absurd hj (by decide)
       | 3, hj => exact absurd hj (by decide)
       | 4, hj => exact absurd hj (by decide)
       | 5, hj => exact absurd hj (by decide)
       | 6, hj => exact absurd hj (by decide)
       | 7, hj => exact absurd hj (by decide)
       | 8, hj => exact absurd hj (by decide)
       | 9, hj => exact absurd hj (by decide)
       | 10, _ => exact HCW.out
       | _ + 11, _ => trivial
      ·refine ⟨?_, ?_, ?_, ?_, ?_, ?_, ?_, ?_, ?_, ?_, trivial⟩
       ·intro xq wy hbz hx K hK0
        have hK := fun v w' hb => hK0 v w' (.inl hb)
        clear hx hKc hK0
        simp only [frameOf, fill, setSlot, sg, Nat.reduceBEq, if_true, if_false, Nat.reduceAdd, Nat.reduceEqDiff, HSL.out] at hK ⊢
        go_wp2_with (fail)
        exact hK _ _ (Below.refl _ _) rfl
       ·intro xq wy hbz hx K hK0
        have hK := fun v w' hb => hK0 v w' (.inl hb)
        have e53 : xq 53 = .int .i64 (k : Int) := hx 0 (by rfl) (by rfl)
        clear hx hKc hK0
        simp only [frameOf, fill, setSlot, sg, Nat.reduceBEq, if_true, if_false, Nat.reduceAdd, Nat.reduceEqDiff, HSL.out] at hK ⊢
        simp only [e53] at hK ⊢
        clear e53
        go_wp2_with (fail)
        exact hK _ _ (Below.refl _ _) rfl
       ·intro xq wy hbz hx K hK0
        have hK := fun v w' hb => hK0 v w' (.inl hb)
        have e54 : xq 54 = .pointer (some ⟨w.heap.size + 1, k * 2, none⟩) := hx 1 (by rfl) (by rfl)
        clear hx hKc hK0
        simp only [frameOf, fill, setSlot, sg, Nat.reduceBEq, if_true, if_false, Nat.reduceAdd, Nat.reduceEqDiff, HSL.out] at hK ⊢
        simp only [e54] at hK ⊢
        clear e54
        go_wp2_with (fail)
        exact hK _ _ (Below.refl _ _) rfl
       ·intro xq wy hbz hx K hK0
        have hK := fun v w' hb => hK0 v w' (.inl hb)
        have e55 : xq 55 = .pointer (some ⟨w.heap.size + 1, k * 2 + 1, none⟩) := hx 2 (by rfl) (by rfl)
        have fi4_0 : Holds wy (w.heap.size + 1) 63 ((us.set k (s.1 + r0, s.2)).flatMap spCells).toArray := hx 10 (by rfl) (by rfl)
        clear hx hKc hK0
        obtain ⟨q0, q1⟩ := warm_cell fi4_0 HUS.out
        simp only [frameOf, fill, setSlot, sg, Nat.reduceBEq, if_true, if_false, Nat.reduceAdd, Nat.reduceEqDiff, HSL.out] at hK ⊢
        simp only [e55] at hK ⊢
        clear e55
        go_wp2_with (fail)
        exact hK _ _ (Below.refl _ _) rfl
       ·intro xq wy hbz hx K hK0
        have hK := fun v w' hb => hK0 v w' (.inl hb)
        clear hx hKc hK0
        simp only [frameOf, fill, setSlot, sg, Nat.reduceBEq, if_true, if_false, Nat.reduceAdd, Nat.reduceEqDiff, HSL.out] at hK ⊢
        go_wp2_with (fail)
        exact hK _ _ (Below.refl _ _) rfl
       ·intro xq wy hbz hx K hK0
        have hK := fun v w' hb => hK0 v w' (.inl hb)
        have e57 : xq 57 = .pointer (some ⟨w5.heap.size, 1, none⟩) := hx 4 (by rfl) (by rfl)
        clear hx hKc hK0
        have q5 : wy.cell? ⟨w5.heap.size, 1, none⟩ = some (.int .i64 r1) := hbz.2.2.2.2.cell 1
        simp only [frameOf, fill, setSlot, sg, Nat.reduceBEq, if_true, if_false, Nat.reduceAdd, Nat.reduceEqDiff, HSL.out] at hK ⊢
        simp only [e57] at hK ⊢
        clear e57
        go_wp2_with (fail)
        exact hK _ _ (Below.refl _ _) rfl
       ·intro xq wy hbz hx K hK0
        have hK := fun v w' hb => hK0 v w' (.inl hb)
        have e56 : xq 56 = .int .i64 s.2 := hx 3 (by rfl) (by rfl)
        have e58 : xq 58 = .int .i64 r1 := hx 5 (by rfl) (by rfl)
        clear hx hKc hK0
        simp only [frameOf, fill, setSlot, sg, Nat.reduceBEq, if_true, if_false, Nat.reduceAdd, Nat.reduceEqDiff, HSL.out] at hK ⊢
        simp only [e56, e58] at hK ⊢
        clear e56 e58
        go_wp2_with (fail)
        exact hK _ _ (Below.refl _ _) rfl
       ·intro xq wy hbz hx K hK0
        have hK := fun v w' hb => hK0 v w' (.inl hb)
        have e53 : xq 53 = .int .i64 (k : Int) := hx 0 (by rfl) (by rfl)
        clear hx hKc hK0
        simp only [frameOf, fill, setSlot, sg, Nat.reduceBEq, if_true, if_false, Nat.reduceAdd, Nat.reduceEqDiff, HSL.out] at hK ⊢
        simp only [e53] at hK ⊢
        clear e53
        go_wp2_with (fail)
        exact hK _ _ (Below.refl _ _) rfl
       ·intro xq wy hbz hx K hK0
        have hK := fun v w' hb => hK0 v w' (.inl hb)
        have e60 : xq 60 = .pointer (some ⟨w.heap.size + 1, k * 2, none⟩) := hx 7 (by rfl) (by rfl)
        clear hx hKc hK0
        simp only [frameOf, fill, setSlot, sg, Nat.reduceBEq, if_true, if_false, Nat.reduceAdd, Nat.reduceEqDiff, HSL.out] at hK ⊢
        simp only [e60] at hK ⊢
        clear e60
        go_wp2_with (fail)
        exact hK _ _ (Below.refl _ _) rfl
       ·intro xq wy hbz hx K hK0
        have hK := fun v w' hb => hK0 v w' (.inr hb)
        have e59 : xq 59 = .int .i64 (s.2 + r1) := hx 6 (by rfl) (by rfl)
        have e61 : xq 61 = .pointer (some ⟨w.heap.size + 1, k * 2 + 1, none⟩) := hx 8 (by rfl) (by rfl)
        have fi4_0 : Holds wy (w.heap.size + 1) 63 ((us.set k (s.1 + r0, s.2)).flatMap spCells).toArray := hx 10 (by rfl) (by rfl)
        clear hx hKc hK0
        obtain ⟨q0, q1⟩ := warm_cell fi4_0 HUS.out
        have z0 := fi4_0.frozen (k * 2 + 1)
        have ltq := fi4_0.lt
        simp only [frameOf, fill, setSlot, sg, Nat.reduceBEq, if_true, if_false, Nat.reduceAdd, Nat.reduceEqDiff, HSL.out] at hK ⊢
        have E59 := Lib.hid e59
        have E61 := Lib.hid e61
        simp only [e59, e61] at hK ⊢
        clear e59 e61
        go_wp2_with (fail)
        refine hK undef _ ⟨(by have h := hbz; exact ⟨h.1.trans zg, by simp only [World.size_setCell]; exact h.2.1, h.2.2.1.far (p := ⟨w.heap.size + 1, k * 2 + 1, none⟩) (by simp only [ne_eq]; omega) _, h.2.2.2.1.far (p := ⟨w.heap.size + 1, k * 2 + 1, none⟩) (by simp only [ne_eq]; omega) _, h.2.2.2.2.far (p := ⟨w.heap.size + 1, k * 2 + 1, none⟩) (by simp only [ne_eq]; omega) _⟩), ?_⟩ (by have h := fi4_0.setL (k * 2 + 1) (.int .i64 (s.2 + r1)); rw [set_hi (us.set k (s.1 + r0, s.2)) k (s.1 + r0, s.2) _ HUS.out] at h; exact h)
        intro jq xq hd hne hv
        match jq, hd, hne, hv with
        | 0, _, _, hv => exact hv
        | 1, _, _, hv => exact hv
        | 2, _, _, hv => exact hv
        | 3, _, _, hv => exact hv
        | 4, _, _, hv => exact hv
        | 5, _, _, hv => exact hv
        | 6, _, _, hv => exact hv
        | 7, _, _, hv => exact hv
        | 8, _, _, hv => exact hv
        | 9, _, hne, _ => exact absurd rfl hne
        | 10, hd, _, _ => exact absurd hd (by decide)
        | _ + 11, _, _, _ => trivial
      ·intro xq wy hbz hx
       have e53 : xq 53 = .int .i64 (k : Int) := hx 0 (by decide)
       have e54 : xq 54 = .pointer (some ⟨w.heap.size + 1, k * 2, none⟩) := hx 1 (by decide)
       have e55 : xq 55 = .pointer (some ⟨w.heap.size + 1, k * 2 + 1, none⟩) := hx 2 (by decide)
       have e56 : xq 56 = .int .i64 s.2 := hx 3 (by decide)
       have e57 : xq 57 = .pointer (some ⟨w5.heap.size, 1, none⟩) := hx 4 (by decide)
       have e58 : xq 58 = .int .i64 r1 := hx 5 (by decide)
       have e59 : xq 59 = .int .i64 (s.2 + r1) := hx 6 (by decide)
       have e60 : xq 60 = .pointer (some ⟨w.heap.size + 1, k * 2, none⟩) := hx 7 (by decide)
       have e61 : xq 61 = .pointer (some ⟨w.heap.size + 1, k * 2 + 1, none⟩) := hx 8 (by decide)
       have fn9_0 : Holds wy (w.heap.size + 1) 63 (((us.set k (s.1 + r0, s.2)).set k (s.1 + r0, s.2 + r1)).flatMap spCells).toArray := hx 9 (by decide)
       clear hx
       simp only [frameOf, fill, setSlot, sg, Nat.reduceBEq, if_true, if_false, Nat.reduceAdd, Nat.reduceEqDiff, HSL.out]
       simp only [e53, e54, e55, e56, e57, e58, e59, e60, e61]
       clear e53 e54 e55 e56 e57 e58 e59 e60 e61
       go_wp2_with fail
       go_roundw
       case rel => exact ⟨k + 1, _, by go_num, hkl, HST.out, hbz.2.2.1, (by have h := fn9_0; rw [List.set_set] at h; exact h), hbz.2.2.2.1, hbz.1⟩
       case measure => first | (simp [intOf]; done) | (simp [intOf]; omega)
    ·have hkn : k = bs.length := by omega
     have hkl' : ¬ (k : Int) < bs.length := by omega
     have HWN : Hid (WarmTo b bs l bs.length [s0, s1, s2, s3] us) := Lib.hid (by rw [← hkn]; exact HWA.out)
     obtain ⟨u0, u1, u2, u3, e4⟩ := four_of HWN.out.1
     have H4 := Lib.hid e4
     have HW4 : Hid (Holds wk (w.heap.size + 1) 63 #[.int .i64 u0.1, .int .i64 u0.2, .int .i64 u1.1, .int .i64 u1.2, .int .i64 u2.1, .int .i64 u2.2, .int .i64 u3.1, .int .i64 u3.2]) := Lib.hid (by have h := HG4.out; rw [e4] at h; exact h)
     clear e4
     obtain ⟨kw0, kw1, kw2, kw3, kw4, kw5, kw6, kw7⟩ := HW4.out.c8
     obtain ⟨kr0, kr1, kr2, kr3, kr4, kr5, kr6, kr7⟩ := HG6.out.c8
     obtain ⟨zr0, zr1, zr2, zr3, zr4, zr5, zr6, zr7⟩ := HG6.out.f8
     go_wp2_with fail
     refine ret_cell (t := 63) (cs := #[.int .i64 u0.1, .int .i64 u0.2, .int .i64 u1.1, .int .i64 u1.2, .int .i64 u2.1, .int .i64 u2.2, .int .i64 u3.1, .int .i64 u3.2]) rfl rfl (Holds.set8 _ _ _ _ _ _ _ _ HG6.out) Tryz.underlying63 rfl (by kernel_rfl) rfl ⟨us, by rw [H4.out]; rfl, HWN.out, HBk.out.trans zg⟩
def Seen (k m i k' m' d' : Nat) : Prop := k' < k ∨ k' = k ∧ (m' < m ∨ m' = m ∧ d' < i)
def Best (F : Nat → Nat → Nat → Bool) (k m i day bin : Nat) (any : Bool) : Prop :=
 (any = false → day = 0 ∧ bin = 0 ∧ ∀ k' m' d', Seen k m i k' m' d' → F k' m' d' = false) ∧
 (any = true → bin ≤ k ∧ (∃ m', F bin m' day = true) ∧ ∀ k' m' d', Seen k m i k' m' d' → F k' m' d' = true → day < d' ∨ day = d' ∧ bin ≤ k')
theorem warm_get {cool r k : Int} : ∀ {p : List (List Int)} {g a : Int} {d : Nat} {l : List Int}, (g :: warmList cool r k g p)[d]? = some a → p[d]? = some l → (g :: warmList cool r k g p)[d + 1]? = some ((if l.contains k then min a cool else a) + r) := by
 intro p
 induction p with
 | nil => intro g a d l _ h; simp at h
 | cons y p ih =>
  intro g a d l ha hl
  cases d with
  | zero =>
   rw [List.getElem?_cons_zero] at ha hl
   cases ha; cases hl
   rw [warmList, List.getElem?_cons_succ, List.getElem?_cons_zero]
  | succ d =>
   rw [List.getElem?_cons_succ] at ha hl ⊢
   rw [warmList] at ha ⊢
   exact ih ha hl
theorem warm_mono {cool k : Int} : ∀ {p : List (List Int)} {g g' r r' a a' : Int} {d : Nat}, g ≤ g' → r ≤ r' → (warmList cool r k g p)[d]? = some a → (warmList cool r' k g' p)[d]? = some a' → a ≤ a' := by
 intro p
 induction p with
 | nil => intro g g' r r' a a' d _ _ h; simp [warmList] at h
 | cons y p ih =>
  intro g g' r r' a a' d hg hr ha ha'
  rw [warmList] at ha ha'
  have hn : (if y.contains k then min g cool else g) + r ≤ (if y.contains k then min g' cool else g') + r' := by split <;> omega
  cases d with
  | zero =>
   rw [List.getElem?_cons_zero] at ha ha'
   cases ha; cases ha'
   exact hn
  | succ d =>
   rw [List.getElem?_cons_succ] at ha ha'
   exact ih hn hr ha ha'
theorem rise_mono {b : Br} {bs : List Bn} (h : barnErr b bs = 0) {m m' : Nat} (hm : m ≤ m') (h6 : m' < 6) : b.rise (m : Int) ≤ b.rise (m' : Int) := by
 have hr := (barn_right h).2.2.2.2.2.1
 simp only [Br.rises, risesFrom, Bool.and_eq_true, decide_eq_true_eq] at hr
 have h1 : m = 0 ∨ m = 1 ∨ m = 2 ∨ m = 3 ∨ m = 4 ∨ m = 5 := by omega
 have h2 : m' = 0 ∨ m' = 1 ∨ m' = 2 ∨ m' = 3 ∨ m' = 4 ∨ m' = 5 := by omega
 rcases h1 with rfl | rfl | rfl | rfl | rfl | rfl <;> rcases h2 with rfl | rfl | rfl | rfl | rfl | rfl <;> first | (exfalso; omega) | (simp [Br.rise, Br.rises]; done) | (simp [Br.rise, Br.rises]; omega)
def WallAt (b : Br) (bs : List Bn) (p : List (List Int)) (d : Nat) (ws : List (Int × Int)) : Prop := ws.length = 4 ∧ ∀ (k : Nat) (x : Bn), bs[k]? = some x → ∃ s : Int × Int, ws[k]? = some s ∧ (x.warm :: warmList b.cool (b.rise x.lo) (k : Int) x.warm p)[d]? = some s.1 ∧ (x.warm :: warmList b.cool (b.rise x.hi) (k : Int) x.warm p)[d]? = some s.2
theorem wall_first {b : Br} {bs : List Bn} {p : List (List Int)} (h4 : bs.length ≤ 4) : WallAt b bs p 0 (firstOf bs bs.length) := by
 refine ⟨first_len (Nat.le_refl _) h4, fun k x hx => ⟨(x.warm, x.warm), ?_, rfl, rfl⟩⟩
 have hk := (List.getElem?_eq_some_iff.1 hx).1
 unfold firstOf
 rw [List.getElem?_append_left (by rw [List.length_map, List.length_take]; omega), List.getElem?_map, List.getElem?_take, if_pos hk, hx]
 rfl
theorem wall_next {b : Br} {bs : List Bn} {p : List (List Int)} {d : Nat} {l : List Int} {ws ws' : List (Int × Int)} (h : WallAt b bs p d ws) (hl : p[d]? = some l) (hw : WarmTo b bs l bs.length ws ws') : WallAt b bs p (d + 1) ws' := by
 refine ⟨hw.1, fun k x hx => ?_⟩
 have hk := (List.getElem?_eq_some_iff.1 hx).1
 obtain ⟨s, hs, h1, h2⟩ := h.2 k x hx
 have e := hw.2 k s hs
 rw [if_pos hk] at e
 refine ⟨_, e, ?_, ?_⟩
 ·rw [warm_get h1 hl]
  unfold warmAt coolAt
  rw [hx]
  congr 1
  dsimp only
  split <;> rfl
 ·rw [warm_get h2 hl]
  unfold warmAt coolAt
  rw [hx]
  congr 1
  dsimp only
  split <;> rfl
def First (F : Nat → Nat → Nat → Bool) (day bin : Nat) (any : Bool) : Prop :=
 (any = false → day = 0 ∧ bin = 0 ∧ ∀ k m d, F k m d = false) ∧
 (any = true → (∃ m, F bin m day = true) ∧ ∀ k m d, F k m d = true → day < d ∨ day = d ∧ bin ≤ k)
theorem First.of {F : Nat → Nat → Nat → Bool} {n day bin : Nat} {any : Bool} (h : Best F n 0 0 day bin any) (hF : ∀ k m d, n ≤ k → F k m d = false) : First F day bin any := by
 refine ⟨fun ha => ?_, fun ha => ?_⟩
 ·obtain ⟨h1, h2, h3⟩ := h.1 ha
  refine ⟨h1, h2, fun k m d => ?_⟩
  by_cases hk : k < n
  ·exact h3 k m d (.inl hk)
  ·exact hF k m d (by omega)
 ·obtain ⟨_, h2, h3⟩ := h.2 ha
  refine ⟨h2, fun k m d ht => ?_⟩
  by_cases hk : k < n
  ·exact h3 k m d (.inl hk) ht
  ·rw [hF k m d (by omega)] at ht; cases ht
theorem First.same {F : Nat → Nat → Nat → Bool} {day bin day' bin' : Nat} {any any' : Bool} (h : First F day bin any) (h' : First F day' bin' any') : day = day' ∧ bin = bin' ∧ any = any' := by
 cases any with
 | false =>
  obtain ⟨h1, h2, h3⟩ := h.1 rfl
  cases any' with
  | false =>
   obtain ⟨k1, k2, _⟩ := h'.1 rfl
   exact ⟨by omega, by omega, rfl⟩
  | true =>
   obtain ⟨⟨m, hm⟩, _⟩ := h'.2 rfl
   rw [h3] at hm; cases hm
 | true =>
  obtain ⟨⟨m, hm⟩, h2⟩ := h.2 rfl
  cases any' with
  | false =>
   obtain ⟨_, _, k3⟩ := h'.1 rfl
   rw [k3] at hm; cases hm
  | true =>
   obtain ⟨⟨m', hm'⟩, k2⟩ := h'.2 rfl
   have a1 := h2 _ _ _ hm'
   have a2 := k2 _ _ _ hm
   exact ⟨by omega, by omega, rfl⟩
def stepOne (b : Br) (bs : List Bn) (l : List Int) (k : Nat) (s : Int × Int) : Int × Int := if k < bs.length then warmAt b bs l k s else coolAt b.cool l k s
def stepW (b : Br) (bs : List Bn) (l : List Int) (ws : List (Int × Int)) : List (Int × Int) := ws.mapIdx (stepOne b bs l)
theorem step_len (b : Br) (bs : List Bn) (l : List Int) (ws : List (Int × Int)) : (stepW b bs l ws).length = ws.length := by simp [stepW]
theorem step_of {b : Br} {bs : List Bn} {l : List Int} {ws ws' : List (Int × Int)} (h : WarmTo b bs l bs.length ws ws') (h4 : ws.length = 4) : ws' = stepW b bs l ws := by
 apply List.ext_getElem?
 intro k
 unfold stepW
 rw [List.getElem?_mapIdx]
 cases hk : ws[k]? with
 | none =>
  have := List.getElem?_eq_none_iff.1 hk
  rw [List.getElem?_eq_none (by rw [h.1]; omega)]
  rfl
 | some s => rw [h.2 k s hk]; rfl
theorem step_warm {b : Br} {bs : List Bn} {l : List Int} {ws : List (Int × Int)} (h4 : ws.length = 4) : WarmTo b bs l bs.length ws (stepW b bs l ws) := by
 refine ⟨by rw [step_len, h4], fun k s hs => ?_⟩
 unfold stepW
 rw [List.getElem?_mapIdx, hs]
 rfl
def wallsFrom (b : Br) (bs : List Bn) : Nat → List (Int × Int) → List (List Int) → List (Nat × List (Int × Int))
 | _, _, [] => []
 | d, ws, l :: p => (d, stepW b bs l ws) :: wallsFrom b bs (d + 1) (stepW b bs l ws) p
theorem walls_len (b : Br) (bs : List Bn) : ∀ (p : List (List Int)) (d : Nat) (ws : List (Int × Int)), (wallsFrom b bs d ws p).length = p.length := by
 intro p
 induction p with
 | nil => intro d ws; rfl
 | cons l p ih => intro d ws; rw [wallsFrom, List.length_cons, ih, List.length_cons]
theorem walls_step {b : Br} {bs : List Bn} {d : Nat} {ws : List (Int × Int)} {p : List (List Int)} {l : List Int} (h : p[d]? = some l) : wallsFrom b bs d ws (p.drop d) = (d, stepW b bs l ws) :: wallsFrom b bs (d + 1) (stepW b bs l ws) (p.drop (d + 1)) := by
 obtain ⟨hl, rfl⟩ := List.getElem?_eq_some_iff.1 h
 rw [List.drop_eq_getElem_cons hl, wallsFrom]
theorem walls_at {b : Br} {bs : List Bn} {P : List (List Int)} : ∀ (p : List (List Int)) (d : Nat) (ws : List (Int × Int)), P.drop d = p → WallAt b bs P d ws → ∀ (i : Nat) (y : Nat × List (Int × Int)), (wallsFrom b bs d ws p)[i]? = some y → y.1 = d + i ∧ WallAt b bs P (d + i + 1) y.2 := by
 intro p
 induction p with
 | nil => intro d ws _ _ i y h; simp [wallsFrom] at h
 | cons l p ih =>
  intro d ws hP hw i y h
  have hl : P[d]? = some l := by
   have : (P.drop d)[0]? = some l := by rw [hP]; rfl
   rwa [List.getElem?_drop, Nat.add_zero] at this
  have hn := wall_next hw hl (step_warm hw.1)
  rw [wallsFrom] at h
  cases i with
  | zero =>
   rw [List.getElem?_cons_zero] at h
   cases h
   exact ⟨rfl, hn⟩
  | succ i =>
   rw [List.getElem?_cons_succ] at h
   have hP2 : P.drop (d + 1) = p := by
    rw [← List.drop_drop, hP]; rfl
   obtain ⟨h1, h2⟩ := ih (d + 1) _ hP2 hn i y h
   exact ⟨by omega, by rw [show d + (i + 1) + 1 = d + 1 + i + 1 by omega]; exact h2⟩
theorem stepW_mild {b : Br} {bs : List Bn} {l : List Int} {ws : List (Int × Int)} {m : Int} (hE : barnErr b bs = 0) (h4 : ws.length = 4) (h : Mild m ws) : Mild (m + 20) (stepW b bs l ws) := by
 have hc : 0 ≤ b.cool := by have := (barn_right hE).2.1; simp only [within, Bool.and_eq_true, decide_eq_true_eq] at this; omega
 intro k s hs
 have hr : ∀ z : Int, 0 ≤ b.rise z ∧ b.rise z ≤ 20 := fun z => by have := riseOk_cases (rise_in (barn_right hE).2.2.2.1 z); omega
 unfold stepW at hs
 rw [List.getElem?_mapIdx] at hs
 cases hk : ws[k]? with
 | none => rw [hk] at hs; cases hs
 | some t =>
  rw [hk] at hs
  have ht := h k t hk
  have hcool : 0 ≤ (coolAt b.cool l k t).1 ∧ (coolAt b.cool l k t).1 ≤ m ∧ 0 ≤ (coolAt b.cool l k t).2 ∧ (coolAt b.cool l k t).2 ≤ m := by
   unfold coolAt
   split <;> refine ⟨?_, ?_, ?_, ?_⟩ <;> (try dsimp only) <;> omega
  simp only [Option.map_some, Option.some.injEq] at hs
  subst hs
  unfold stepOne warmAt
  split
  ·split
   ·rename_i x _
    have h1 := hr x.lo
    have h2 := hr x.hi
    refine ⟨?_, ?_, ?_, ?_⟩ <;> dsimp only <;> omega
   ·omega
  ·omega
set_option maxRecDepth 100000 in
set_option maxHeartbeats 40000000 in
theorem ends_any (b : Br) (A : Option Addr) (c n : Nat) (P : Option Addr) (q m : Nat) (w : World) :
  Calls Tryz.prog 22 #[.agg #[.int .i64 b.cool, .int .i64 b.gangs, .int .i64 b.r0, .int .i64 b.r1, .int .i64 b.r2, .int .i64 b.r3, .int .i64 b.r4, .int .i64 b.r5, .slice A n c], .slice P m q] w fun e w' => e = .returned (.func (.func 43) #[] #[.pointer (some ⟨w.heap.size, 0, none⟩), .pointer (some ⟨w.heap.size + 1, 0, none⟩)]) ∧ Below w.heap.size w w' ∧ Holds w' w.heap.size 26 #[.int .i64 b.cool, .int .i64 b.gangs, .int .i64 b.r0, .int .i64 b.r1, .int .i64 b.r2, .int .i64 b.r3, .int .i64 b.r4, .int .i64 b.r5, .slice A n c] ∧ Holds w' (w.heap.size + 1) 30 #[.slice P m q] := by
 go_enter Tryz.func22, Tryz.ntmps22
 go_wp2_with fail
 go_ret
 exact ⟨rfl, zg, by (repeat first | (with_reducible first | assumption | apply Holds.set4 | apply Holds.set2 | apply Holds.putL | ((refine Holds.new' _ _ ?_); (simp; done)) | refine Holds.alloc ?_ _ | refine Holds.drew ?_ | refine Holds.far ?_ (by simp only [ne_eq]; omega) _) | rfl), by (repeat first | (with_reducible first | assumption | apply Holds.set4 | apply Holds.set2 | apply Holds.putL | ((refine Holds.new' _ _ ?_); (simp; done)) | refine Holds.alloc ?_ _ | refine Holds.drew ?_ | refine Holds.far ?_ (by simp only [ne_eq]; omega) _) | rfl)⟩
end Go.Proofs.YtokafjkinkafiaaGreat
