
import Derived.Test.YtigkcillgniolaaTAA
import Derived.Test.YtigkcillgniolaaTAC
import Derived.Test.YtigkcillgniolaaTBF
import Derived.Test.YtigkcillgniolaaTBQ
import Derived.Test.YtigkcillgniolaaTBR
set_option linter.unusedSimpArgs false
set_option linter.unusedVariables false
namespace Go.Proofs.Ytigkcillgniolaa
open Go.RowKit
def limB (m0 m1 m2 m3 : Int) (g : Gr) : Bool := decide (g.corn ≤ m0) && decide (m1 ≤ g.chaff) && decide (m2 ≤ g.stones) && decide (m3 ≤ g.damp)
def idxFrom (p : Gr → Bool) : List Gr → Nat → Int
 | [], _ => -1
 | g :: gs, k => if p g then (k : Int) else idxFrom p gs (k + 1)
def hasN (gs : List Gr) (m0 m1 m2 m3 : Int) : Int := idxFrom (limB m0 m1 m2 m3) gs 0
set_option maxRecDepth 100000 in
set_option maxHeartbeats 4000000 in
theorem hasOne_any (g : Gr) (M : Nat) (m0 m1 m2 m3 : Int) (w : World) (hM : Holds w M 28 #[.int .i64 m0, .int .i64 m1, .int .i64 m2, .int .i64 m3]) :
  Calls Try.prog 126 #[.agg #[.int .i64 g.corn, .int .i64 g.chaff, .int .i64 g.stones, .int .i64 g.damp, .int .i64 g.price], .pointer (some ⟨M, 0, none⟩)] w fun e w' => e = .returned (.bool (limB m0 m1 m2 m3 g)) ∧ Below w.heap.size w w' := by
 have hl := hM.lt
 obtain ⟨k0, k1, k2, k3⟩ := hM.c4
 clear hM
 by_cases c0 : g.corn ≤ m0
 ·by_cases c1 : m1 ≤ g.chaff
  ·by_cases c2 : m2 ≤ g.stones
   ·by_cases c3 : m3 ≤ g.damp
    ·have hf : limB m0 m1 m2 m3 g = true := by simp [limB, c0, c1, c2, c3]
     rw [hf]
     go_enter Try.func126, Try.ntmps126
     go_wp2_with fail
     go_ret
     exact ⟨rfl, zg⟩
    ·have hf : limB m0 m1 m2 m3 g = false := by simp [limB, c3]
     rw [hf]
     go_enter Try.func126, Try.ntmps126
     go_wp2_with fail
     go_ret
     exact ⟨rfl, zg⟩
   ·have hf : limB m0 m1 m2 m3 g = false := by simp [limB, c2]
    rw [hf]
    go_enter Try.func126, Try.ntmps126
    go_wp2_with fail
    go_ret
    exact ⟨rfl, zg⟩
  ·have hf : limB m0 m1 m2 m3 g = false := by simp [limB, c1]
   rw [hf]
   go_enter Try.func126, Try.ntmps126
   go_wp2_with fail
   go_ret
   exact ⟨rfl, zg⟩
 ·have hf : limB m0 m1 m2 m3 g = false := by simp [limB, c0]
  rw [hf]
  go_enter Try.func126, Try.ntmps126
  go_wp2_with fail
  go_ret
  exact ⟨rfl, zg⟩
set_option maxRecDepth 100000 in
set_option maxHeartbeats 4000000 in
theorem indexGrade_any (G : Option Addr) (d : Nat) (gs : List Gr) (M : Nat) (m0 m1 m2 m3 : Int) (w : World) (hM : Holds w M 28 #[.int .i64 m0, .int .i64 m1, .int .i64 m2, .int .i64 m3]) (hG : GradesAt w G gs) (hgl : gs.length ≤ 1000) :
  Calls Try.prog 125 #[.slice G gs.length d, .func (.func 126) #[] #[.pointer (some ⟨M, 0, none⟩)]] w fun e w' => e = .returned (.int .i64 (hasN gs m0 m1 m2 m3)) ∧ Below w.heap.size w w' := by
 have HM := Lib.hid hM
 have HG := Lib.hid hG
 clear hM hG
 go_enter Try.func125, Try.ntmps125
 go_wp2_with fail
 go_loopw [8] (fun v8 wr => ∃ k : Nat, k ≤ gs.length ∧ v8 = .int .i64 (k : Int) ∧ Hid (hasN gs m0 m1 m2 m3 = idxFrom (limB m0 m1 m2 m3) (gs.drop k) k) ∧ Below w.heap.size w wr) (fun v8 _ => gs.length - (intOf v8).toNat)
 case atStart => exact ⟨0, Nat.zero_le _, rfl, rfl, Below.refl _ _⟩
 case round =>
  obtain ⟨k, hk, rfl, hp, hB⟩ := hrel
  have HB := Lib.hid hB
  clear hB
  by_cases hlt : k < gs.length
  ·obtain ⟨B, o, rfl, hcell⟩ := (HG.out.up HB.out) (by omega)
   obtain ⟨c0, c1, c2, c3, c4⟩ := hcell k _ (List.getElem?_eq_getElem hlt)
   clear hcell
   obtain ⟨g, hg⟩ : ∃ z, z = gs[k] := ⟨_, rfl⟩
   rw [← hg] at c0 c1 c2 c3 c4
   have HGG := Lib.hid hg
   clear hg
   cases hc : limB m0 m1 m2 m3 g with
   | true =>
    have HC := Lib.hid hc
    clear hc
    have hf : hasN gs m0 m1 m2 m3 = (k : Int) := by rw [hp.out, List.drop_eq_getElem_cons hlt, idxFrom, ← HGG.out, HC.out, if_pos rfl]
    have HF := Lib.hid hf
    clear hf
    go_wp2_with (go_at_call 126; refine (hasOne_any g M m0 m1 m2 m3 _ (HM.out.up HB.out)).mono ?_; rw [HC.out]; rintro e w3 ⟨rfl, hb3⟩; (have H3 := Lib.hid hb3); (clear hb3))
    go_ret
    exact ⟨by rw [HF.out]; rfl, HB.out.trans (H3.out.mono HB.out.size)⟩
   | false =>
    have HC := Lib.hid hc
    clear hc
    have hf : hasN gs m0 m1 m2 m3 = idxFrom (limB m0 m1 m2 m3) (gs.drop (k + 1)) (k + 1) := by rw [hp.out, List.drop_eq_getElem_cons hlt, idxFrom, ← HGG.out, HC.out, if_neg (by decide)]
    have HF := Lib.hid hf
    clear hf
    go_wp2_with (go_at_call 126; refine (hasOne_any g M m0 m1 m2 m3 _ (HM.out.up HB.out)).mono ?_; rw [HC.out]; rintro e w3 ⟨rfl, hb3⟩; (have H3 := Lib.hid hb3); (clear hb3))
    go_roundw
    case rel => exact ⟨k + 1, hlt, by go_num, HF, HB.out.trans (H3.out.mono HB.out.size)⟩
    case measure => simp [intOf]; omega
  ·have hkl : k = gs.length := by omega
   have hf : hasN gs m0 m1 m2 m3 = -1 := by rw [hp.out, hkl, List.drop_length]; rfl
   have HF := Lib.hid hf
   clear hf
   go_wp2_with fail
   go_ret
   exact ⟨by rw [HF.out]; rfl, HB.out⟩
set_option maxRecDepth 100000 in
set_option maxHeartbeats 4000000 in
theorem has_any (err miss : Int) (G : Option Addr) (d : Nat) (gs : List Gr) (m0 m1 m2 m3 : Int) (w : World) (hG : GradesAt w G gs) (hgl : gs.length ≤ 1000) :
  Calls Try.prog 66 #[.agg #[.int .i64 err, .int .i64 miss, .slice G gs.length d], .agg #[.int .i64 m0, .int .i64 m1, .int .i64 m2, .int .i64 m3]] w fun e w' => e = .returned (.int .i64 (hasN gs m0 m1 m2 m3)) ∧ Below w.heap.size w w' := by
 have HG := Lib.hid hG
 clear hG
 go_enter Try.func66, Try.ntmps66
 go_wp2_with (go_at_call 125; refine (indexGrade_any G d gs (w.heap.size + 1) m0 m1 m2 m3 _ zp4 (HG.out.up zg) hgl).mono ?_; rintro e w3 ⟨rfl, hb3⟩; (have H3 : Hid (Below w.heap.size w w3) := Lib.hid (Below.trans zg (hb3.mono (by first | omega | (simp; done) | (simp; omega))))); (clear hb3))
 go_ret
 exact ⟨rfl, H3.out⟩
theorem near_same {m0 m1 m2 m3 : Int} (h : Mix4 m0 m1 m2 m3) {j : Nat} (hj : j < 4) (t : Int) : (([.int .i64 m0, .int .i64 m1, .int .i64 m2, .int .i64 m3] : List Value).set j (.int .i64 (gat m0 m1 m2 m3 j - t))).set j (.int .i64 (gat m0 m1 m2 m3 j)) = ([.int .i64 m0, .int .i64 m1, .int .i64 m2, .int .i64 m3] : List Value) := by
 rw [List.set_set]
 match j, hj with
 | 0, _ => rfl
 | 1, _ => rfl
 | 2, _ => rfl
 | 3, _ => rfl
theorem near_moved {m0 m1 m2 m3 t : Int} {j k : Nat} (h : Mix4 m0 m1 m2 m3) (hj : j < 4) (hk : k < 4) (hne : j ≠ k) (t0 : 0 ≤ t) (t2 : t ≤ gat m0 m1 m2 m3 j) :
  ∃ x0 x1 x2 x3 : Int, (([.int .i64 m0, .int .i64 m1, .int .i64 m2, .int .i64 m3] : List Value).set j (.int .i64 (gat m0 m1 m2 m3 j - t))).set k (.int .i64 (gat m0 m1 m2 m3 k + t)) = [.int .i64 x0, .int .i64 x1, .int .i64 x2, .int .i64 x3] ∧ Mix4 x0 x1 x2 x3 := by
 obtain ⟨p0, p1, p2, p3, hs⟩ := h
 match j, k, hj, hk, hne, t2 with
 | 0, 0, _, _, hne, _ => exact absurd rfl hne
 | 0, 1, _, _, _, t2 => have t2 : t ≤ m0 := t2; exact ⟨m0 - t, m1 + t, m2, m3, rfl, ⟨by omega, by omega, by omega, by omega, by omega⟩⟩
 | 0, 2, _, _, _, t2 => have t2 : t ≤ m0 := t2; exact ⟨m0 - t, m1, m2 + t, m3, rfl, ⟨by omega, by omega, by omega, by omega, by omega⟩⟩
 | 0, 3, _, _, _, t2 => have t2 : t ≤ m0 := t2; exact ⟨m0 - t, m1, m2, m3 + t, rfl, ⟨by omega, by omega, by omega, by omega, by omega⟩⟩
 | 1, 0, _, _, _, t2 => have t2 : t ≤ m1 := t2; exact ⟨m0 + t, m1 - t, m2, m3, rfl, ⟨by omega, by omega, by omega, by omega, by omega⟩⟩
 | 1, 1, _, _, hne, _ => exact absurd rfl hne
 | 1, 2, _, _, _, t2 => have t2 : t ≤ m1 := t2; exact ⟨m0, m1 - t, m2 + t, m3, rfl, ⟨by omega, by omega, by omega, by omega, by omega⟩⟩
 | 1, 3, _, _, _, t2 => have t2 : t ≤ m1 := t2; exact ⟨m0, m1 - t, m2, m3 + t, rfl, ⟨by omega, by omega, by omega, by omega, by omega⟩⟩
 | 2, 0, _, _, _, t2 => have t2 : t ≤ m2 := t2; exact ⟨m0 + t, m1, m2 - t, m3, rfl, ⟨by omega, by omega, by omega, by omega, by omega⟩⟩
 | 2, 1, _, _, _, t2 => have t2 : t ≤ m2 := t2; exact ⟨m0, m1 + t, m2 - t, m3, rfl, ⟨by omega, by omega, by omega, by omega, by omega⟩⟩
 | 2, 2, _, _, hne, _ => exact absurd rfl hne
 | 2, 3, _, _, _, t2 => have t2 : t ≤ m2 := t2; exact ⟨m0, m1, m2 - t, m3 + t, rfl, ⟨by omega, by omega, by omega, by omega, by omega⟩⟩
 | 3, 0, _, _, _, t2 => have t2 : t ≤ m3 := t2; exact ⟨m0 + t, m1, m2, m3 - t, rfl, ⟨by omega, by omega, by omega, by omega, by omega⟩⟩
 | 3, 1, _, _, _, t2 => have t2 : t ≤ m3 := t2; exact ⟨m0, m1 + t, m2, m3 - t, rfl, ⟨by omega, by omega, by omega, by omega, by omega⟩⟩
 | 3, 2, _, _, _, t2 => have t2 : t ≤ m3 := t2; exact ⟨m0, m1, m2 + t, m3 - t, rfl, ⟨by omega, by omega, by omega, by omega, by omega⟩⟩
 | 3, 3, _, _, hne, _ => exact absurd rfl hne
def NearPost (w : World) (S : Nat) (A : Option Addr) (n c tk : Nat) (e : Ending) (w' : World) : Prop :=
 ∃ (x0 x1 x2 x3 : Int) (tk1 : Nat) (m : Int), e = .returned (.agg #[.int .i64 x0, .int .i64 x1, .int .i64 x2, .int .i64 x3]) ∧ Mix4 x0 x1 x2 x3 ∧ tk1 ≤ tk + 7 ∧ Holds w' S 172 #[.slice A n c, .int .i64 ((tk1 : Nat) : Int), .int .u32 m] ∧ w.grownBy w' (some S)
def NearRel (w : World) (S : Nat) (A : Option Addr) (n c tk : Nat) (cnt : Int) (v10 : Value) (wr : World) : Prop :=
 ∃ (i : Nat) (x0 x1 x2 x3 : Int) (tk1 : Nat) (m1 : Int), v10 = .int .i64 (i : Int) ∧ (i : Int) ≤ cnt ∧ Mix4 x0 x1 x2 x3 ∧ tk1 ≤ tk + 1 + 3 * i ∧ Holds wr S 172 #[.slice A n c, .int .i64 ((tk1 : Nat) : Int), .int .u32 m1] ∧ Holds wr w.heap.size 28 #[.int .i64 x0, .int .i64 x1, .int .i64 x2, .int .i64 x3] ∧ Holds wr (w.heap.size + 1) 28 #[.int .i64 0, .int .i64 0, .int .i64 0, .int .i64 0] ∧ w.grownBy wr (some S)
set_option maxRecDepth 100000 in
set_option maxHeartbeats 8000000 in
theorem near_any (S : Nat) (A : Option Addr) (n c tk : Nat) (m : Int) (m0 m1 m2 m3 : Int) (hm : Mix4 m0 m1 m2 m3) (w : World) (hS : Holds w S 172 #[.slice A n c, .int .i64 ((tk : Nat) : Int), .int .u32 m]) (hA : BytesAt w A n) (hn : n ≤ 9223372036854775807) (ht : tk ≤ 800000) :
  Calls Try.prog 67 #[.pointer (some ⟨S, 0, none⟩), .agg #[.int .i64 m0, .int .i64 m1, .int .i64 m2, .int .i64 m3]] w (NearPost w S A n c tk) := by
 have hSl := hS.lt
 have HS0 := Lib.hid hS
 have HA0 := Lib.hid hA
 have HM0 := Lib.hid hm
 clear hS hA hm
 go_enter Try.func67, Try.ntmps67
 go_wp2_with fail
 refine (Below_any S A n c tk m 3 _ (HS0.out.up zg) (HA0.out.up zg) hn (by omega) (by decide) (by decide)).mono ?_
 rintro e w2 ⟨cnt, sd2, rfl, cn0, cn1, _, hs2, g2⟩
 have HS2 := Lib.hid hs2
 have HG2 := Lib.hid ((only_below S (zg : Below w.heap.size w _)).trans g2)
 have Hm2 := Lib.hid (Holds.grown (zp4 : Holds _ w.heap.size 28 #[.int .i64 m0, .int .i64 m1, .int .i64 m2, .int .i64 m3]) g2 (by omega))
 have Hr2 := Lib.hid (Holds.grown (zp4 : Holds _ (w.heap.size + 1) 28 #[.int .i64 0, .int .i64 0, .int .i64 0, .int .i64 0]) g2 (by omega))
 clear hs2 g2
 go_wp2_with fail
 go_loopw [10] (fun v10 wr => NearRel w S A n c tk cnt v10 wr) (fun v10 _ => (cnt - intOf v10).toNat)
 case atStart => exact ⟨0, _, _, _, _, tk + 1, sd2, rfl, cn0, HM0.out, by omega, HS2.out, Hm2.out, Hr2.out, HG2.out⟩
 case round =>
  obtain ⟨i, x0, x1, x2, x3, tk1, mm1, rfl, hic, hx, htk, hSr, hMr, hRr, hGr⟩ := hrel
  clear HS2 HG2 Hm2 Hr2
  have HX := Lib.hid hx
  have HSr := Lib.hid hSr
  have Hmr := Lib.hid hMr
  have Hrr := Lib.hid hRr
  have HGr := Lib.hid hGr
  have HAr := Lib.hid (HA0.out.grown HS0.out hGr)
  have hsz := hRr.lt
  clear hx hSr hMr hRr hGr
  by_cases hlt : (i : Int) < cnt
  ·go_wp2_with fail
   refine (Below_any S A n c tk1 mm1 4 _ HSr.out HAr.out hn (by omega) (by decide) (by decide)).mono ?_
   rintro e w5 ⟨ia, m5, rfl, ia0, ia1, _, hs5, g5⟩
   have HS5 := Lib.hid hs5
   have HG5 := Lib.hid (HGr.out.trans g5)
   have HA5 := Lib.hid (HA0.out.grown HS0.out HG5.out)
   have Hm5 := Lib.hid (Hmr.out.grown g5 (by omega))
   have Hr5 := Lib.hid (Hrr.out.grown g5 (by omega))
   clear hs5 g5 HSr HGr HAr Hmr Hrr
   obtain ⟨ka, rfl⟩ := Int.eq_ofNat_of_zero_le ia0
   have hka : ka < 4 := by omega
   go_wp2_with fail
   refine (Below_any S A n c (tk1 + 1) m5 4 _ HS5.out HA5.out hn (by omega) (by decide) (by decide)).mono ?_
   rintro e w6 ⟨ib, m6, rfl, ib0, ib1, _, hs6, g6⟩
   have HS6 := Lib.hid hs6
   have HG6 := Lib.hid (HG5.out.trans g6)
   have HA6 := Lib.hid (HA0.out.grown HS0.out HG6.out)
   have Hm6 := Lib.hid (Hm5.out.grown g6 (by omega))
   have Hr6 := Lib.hid (Hr5.out.grown g6 (by omega))
   clear hs6 g6 HS5 HG5 HA5 Hm5 Hr5
   obtain ⟨kb, rfl⟩ := Int.eq_ofNat_of_zero_le ib0
   have hkb : kb < 4 := by omega
   obtain ⟨xa, hxa⟩ : ∃ z, z = gat x0 x1 x2 x3 ka := ⟨_, rfl⟩
   obtain ⟨xb, hxb⟩ : ∃ z, z = gat x0 x1 x2 x3 kb := ⟨_, rfl⟩
   have xa0 : 0 ≤ xa ∧ xa ≤ 40 := hxa ▸ mix_at HX.out ka
   have xb0 : 0 ≤ xb ∧ xb ≤ 40 := hxb ▸ mix_at HX.out kb
   have HXA := Lib.hid hxa
   have HXB := Lib.hid hxb
   clear hxa hxb
   have hs6 := Hr6.out.lt
   go_wp2_with fail
   rename_i Kc hKc
   have HSL := Lib.hid (show slotsOf [some 16, some 17, some 18, some 19, some 20, some 21, some 7] = [16, 17, 18, 19, 20, 21, 7] from rfl)
   refine wp_region_partsG (by kernel_rfl) [some 16, some 17, some 18, some 19, some 20, some 21, some 7] (fun jq xq w' => match jq with
    | 0 => xq 16 = .int .i64 (ka : Int)
    | 1 => xq 17 = .pointer (some ⟨w.heap.size, ka, none⟩)
    | 2 => xq 18 = .int .i64 xa
    | 3 => xq 19 = .pointer (some ⟨S, 0, none⟩)
    | 4 => ∃ r mm, xq 20 = .int .i64 r ∧ 1 ≤ r ∧ r ≤ 3 ∧ Holds w' S 172 #[.slice A n c, .int .i64 ((tk1 + 1 + 1 + 1 : Nat) : Int), .int .u32 mm]
    | 5 => ∃ t, xq 21 = .int .i64 t ∧ 0 ≤ t ∧ t ≤ xa
    | 6 => ∃ t, xq 7 = .int .i64 t ∧ 0 ≤ t ∧ t ≤ xa
    | 7 => Holds w' S 172 #[.slice A n c, .int .i64 ((tk1 + 1 + 1 : Nat) : Int), .int .u32 m6]
    | _ => True) [[16], [17], [18], [19], [20], [21], [7], []] [(4, 7)] (fun w' => w6.grownBy w' (some S)) (by kernel_rfl) ?_ ?_ (fun w' w'' hb h => only_up h hb) (only_below S (Below.refl _ _)) ?_ ?_ ?_
   ·intro jq xq xq' wq h hv
    match jq, h, hv with
    | 0, h, hv => show xq' 16 = .int .i64 (ka : Int); rw [← h 16 (by decide)]; exact hv
    | 1, h, hv => show xq' 17 = .pointer (some ⟨w.heap.size, ka, none⟩); rw [← h 17 (by decide)]; exact hv
    | 2, h, hv => show xq' 18 = .int .i64 xa; rw [← h 18 (by decide)]; exact hv
    | 3, h, hv => show xq' 19 = .pointer (some ⟨S, 0, none⟩); rw [← h 19 (by decide)]; exact hv
    | 4, h, hv => show ∃ r mm, xq' 20 = .int .i64 r ∧ 1 ≤ r ∧ r ≤ 3 ∧ Holds wq S 172 #[.slice A n c, .int .i64 ((tk1 + 1 + 1 + 1 : Nat) : Int), .int .u32 mm]; rw [← h 20 (by decide)]; exact hv
    | 5, h, hv => show ∃ t, xq' 21 = .int .i64 t ∧ 0 ≤ t ∧ t ≤ xa; rw [← h 21 (by decide)]; exact hv
    | 6, h, hv => show ∃ t, xq' 7 = .int .i64 t ∧ 0 ≤ t ∧ t ≤ xa; rw [← h 7 (by decide)]; exact hv
    | 7, h, hv => exact hv
    | _ + 8, _, _ => trivial
   ·intro jq xq wq w' hb' hv
    match jq, hv with
    | 0, hv => exact hv
    | 1, hv => exact hv
    | 2, hv => exact hv
    | 3, hv => exact hv
    | 4, ⟨b0, b1, h0, h1, h2, h3⟩ => exact ⟨b0, b1, h0, h1, h2, h3.up hb'⟩
    | 5, ⟨b0, h0, h1, h2⟩ => exact ⟨b0, h0, h1, h2⟩
    | 6, ⟨b0, h0, h1, h2⟩ => exact ⟨b0, h0, h1, h2⟩
    | 7, h0 => exact h0.up hb'
    | _ + 8, _ => trivial
   ·intro jq hj
    match jq, hj with
    | 0, hj => exact absurd hj (by decide)
    | 1, hj => exact absurd hj (by decide)
    | 2, hj => exact absurd hj (by decide)
    | 3, hj => exact absurd hj (by decide)
    | 4, hj => exact absurd hj (by decide)
    | 5, hj => exact absurd hj (by decide)
    | 6, hj => exact absurd hj (by decide)
    | 7, _ => exact HS6.out
    | _ + 8, _ => trivial
   ·refine ⟨?_, ?_, ?_, ?_, ?_, ?_, ?_, trivial⟩
    ·intro xq w1 hb1 hx K hK0
     have hK := fun v w' hb => hK0 v w' (.inl hb)
     clear hx hKc hK0
     simp only [frameOf, fill, setSlot, sg, Nat.reduceBEq, if_true, if_false, Nat.reduceAdd, Nat.reduceEqDiff, HSL.out] at hK ⊢
     go_wp2_with (fail)
     exact hK _ _ (Below.refl _ _) rfl
    ·intro xq w1 hb1 hx K hK0
     have hK := fun v w' hb => hK0 v w' (.inl hb)
     have e16 : xq 16 = .int .i64 (ka : Int) := hx 0 (by rfl) (by rfl)
     clear hx hKc hK0
     simp only [frameOf, fill, setSlot, sg, Nat.reduceBEq, if_true, if_false, Nat.reduceAdd, Nat.reduceEqDiff, HSL.out] at hK ⊢
     simp only [e16] at hK ⊢
     clear e16
     go_wp2_with (fail)
     exact hK _ _ (Below.refl _ _) rfl
    ·intro xq w1 hb1 hx K hK0
     have hK := fun v w' hb => hK0 v w' (.inl hb)
     have e17 : xq 17 = .pointer (some ⟨w.heap.size, ka, none⟩) := hx 1 (by rfl) (by rfl)
     clear hx hKc hK0
     have k : w1.cell? ⟨w.heap.size, ka, none⟩ = some (.int .i64 xa) := by rw [HXA.out]; exact cell4_at (Hm6.out.grown hb1 (by omega)) hka
     simp only [frameOf, fill, setSlot, sg, Nat.reduceBEq, if_true, if_false, Nat.reduceAdd, Nat.reduceEqDiff, HSL.out] at hK ⊢
     simp only [e17] at hK ⊢
     clear e17
     go_wp2_with (fail)
     exact hK _ _ (Below.refl _ _) rfl
    ·intro xq w1 hb1 hx K hK0
     have hK := fun v w' hb => hK0 v w' (.inl hb)
     clear hx hKc hK0
     simp only [frameOf, fill, setSlot, sg, Nat.reduceBEq, if_true, if_false, Nat.reduceAdd, Nat.reduceEqDiff, HSL.out] at hK ⊢
     go_wp2_with (fail)
     exact hK _ _ (Below.refl _ _) rfl
    ·intro xq w1 hb1 hx K hK0
     have hK := fun v w' hb => hK0 v w' (.inr hb)
     have e19 : xq 19 = .pointer (some ⟨S, 0, none⟩) := hx 3 (by rfl) (by rfl)
     have fiS_0 : Holds w1 S 172 #[.slice A n c, .int .i64 ((tk1 + 1 + 1 : Nat) : Int), .int .u32 m6] := hx 7 (by rfl) (by rfl)
     clear hx hKc hK0
     simp only [frameOf, fill, setSlot, sg, Nat.reduceBEq, if_true, if_false, Nat.reduceAdd, Nat.reduceEqDiff, HSL.out] at hK ⊢
     simp only [e19] at hK ⊢
     clear e19
     go_wp2_with (go_at_call 124; refine (Among_any S A n c (tk1 + 1 + 1) m6 1 3 _ fiS_0 (HA0.out.grown HS0.out (HG6.out.trans hb1)) hn (by omega) (by decide) (by decide) (by decide) (by decide)).mono ?_; rintro e w2 ⟨r, mm, rfl, r0, r1, _, hs, g⟩)
     refine hK _ _ ⟨(hb1.trans g), ?_⟩ ⟨r, mm, rfl, r0, by omega, hs⟩
     intro jq xq hd hne hv
     match jq, hd, hne, hv with
     | 0, _, _, hv => exact hv
     | 1, _, _, hv => exact hv
     | 2, _, _, hv => exact hv
     | 3, _, _, hv => exact hv
     | 4, _, hne, _ => exact absurd rfl hne
     | 5, _, _, hv => exact hv
     | 6, _, _, hv => exact hv
     | 7, hd, _, _ => exact absurd hd (by decide)
     | _ + 8, _, _, _ => trivial
    ·intro xq w1 hb1 hx K hK0
     have hK := fun v w' hb => hK0 v w' (.inl hb)
     have e18 : xq 18 = .int .i64 xa := hx 2 (by rfl) (by rfl)
     obtain ⟨r20, mm20, e20, f20_0, f20_1, f20_2⟩ := hx 4 (by rfl) (by rfl)
     clear hx hKc hK0
     simp only [frameOf, fill, setSlot, sg, Nat.reduceBEq, if_true, if_false, Nat.reduceAdd, Nat.reduceEqDiff, HSL.out] at hK ⊢
     simp only [e18, e20] at hK ⊢
     clear e18 e20
     go_wp2_with (fail)
     all_goals exact hK _ _ (Below.refl _ _) ⟨_, rfl, by omega, by omega⟩
    ·intro xq w1 hb1 hx K hK0
     have hK := fun v w' hb => hK0 v w' (.inl hb)
     obtain ⟨t21, e21, f21_0, f21_1⟩ := hx 5 (by rfl) (by rfl)
     clear hx hKc hK0
     simp only [frameOf, fill, setSlot, sg, Nat.reduceBEq, if_true, if_false, Nat.reduceAdd, Nat.reduceEqDiff, HSL.out] at hK ⊢
     simp only [e21] at hK ⊢
     clear e21
     go_wp2_with (fail)
     exact hK _ _ (Below.refl _ _) ⟨_, rfl, f21_0, f21_1⟩
   ·intro xq w1 hb1 hx
    have e16 : xq 16 = .int .i64 (ka : Int) := hx 0 (by decide)
    have e17 : xq 17 = .pointer (some ⟨w.heap.size, ka, none⟩) := hx 1 (by decide)
    have e18 : xq 18 = .int .i64 xa := hx 2 (by decide)
    have e19 : xq 19 = .pointer (some ⟨S, 0, none⟩) := hx 3 (by decide)
    obtain ⟨r20, mm20, e20, f20_0, f20_1, f20_2⟩ := hx 4 (by decide)
    obtain ⟨t21, e21, f21_0, f21_1⟩ := hx 5 (by decide)
    obtain ⟨t7, e7, f7_0, f7_1⟩ := hx 6 (by decide)
    clear hx
    simp only [frameOf, fill, setSlot, sg, Nat.reduceBEq, if_true, if_false, Nat.reduceAdd, Nat.reduceEqDiff, HSL.out]
    simp only [e16, e17, e18, e19, e20, e21, e7]
    clear e16 e17 e18 e19 e20 e21 e7
    refine hKc _ _ ?_
    have HSx := Lib.hid f20_2
    have HGx := Lib.hid (HG6.out.trans hb1)
    have Hmx := Lib.hid (Hm6.out.grown hb1 (by omega))
    have Hrx := Lib.hid (Hr6.out.grown hb1 (by omega))
    have hszx := hb1.size
    clear f20_2 HS6 HG6 HA6 Hm6 Hr6
    have ca : w1.cell? ⟨w.heap.size, ka, none⟩ = some (.int .i64 xa) := by rw [HXA.out]; exact cell4_at Hmx.out hka
    have za : w1.frozen? ⟨w.heap.size, ka, none⟩ = false := Hmx.out.frozen _
    have lm1 : w.heap.size < w1.heap.size := Hmx.out.lt
    by_cases hab : ka = kb
    ·subst hab
     go_wp2_with fail
     go_roundw
     case rel => exact ⟨i + 1, _, _, _, _, tk1 + 1 + 1 + 1, mm20, by go_num, by omega, HX.out, by omega, (HSx.out.far (by simp only [ne_eq]; omega) _).far (by simp only [ne_eq]; omega) _, (by have h := near_same HX.out hka t7; rw [← HXA.out] at h; exact Holds.putL (Holds.putL (l := [.int .i64 x0, .int .i64 x1, .int .i64 x2, .int .i64 x3]) Hmx.out rfl) h), (Hrx.out.far (by simp) _).far (by simp) _, grow_far (grow_far HGx.out (Nat.le_refl _) _) (Nat.le_refl _) _⟩
     case measure => simp [intOf]; omega
    ·have cb : w1.cell? ⟨w.heap.size, kb, none⟩ = some (.int .i64 xb) := by rw [HXB.out]; exact cell4_at Hmx.out hkb
     have zb : w1.frozen? ⟨w.heap.size, kb, none⟩ = false := Hmx.out.frozen _
     obtain ⟨y0, y1, y2, y3, hset, hmx⟩ := near_moved HX.out hka hkb hab f7_0 (HXA.out ▸ f7_1)
     rw [← HXA.out, ← HXB.out] at hset
     have HSET := Lib.hid hset
     have HMX := Lib.hid hmx
     clear hset hmx
     go_wp2_with fail
     go_roundw
     case rel => exact ⟨i + 1, _, _, _, _, tk1 + 1 + 1 + 1, mm20, by go_num, by omega, HMX.out, by omega, (HSx.out.far (by simp only [ne_eq]; omega) _).far (by simp only [ne_eq]; omega) _, Holds.putL (Holds.putL (l := [.int .i64 x0, .int .i64 x1, .int .i64 x2, .int .i64 x3]) Hmx.out rfl) HSET.out, (Hrx.out.far (by simp) _).far (by simp) _, grow_far (grow_far HGx.out (Nat.le_refl _) _) (Nat.le_refl _) _⟩
     case measure => simp [intOf]; omega
  ·have k0 : wr.cell? ⟨w.heap.size, 0, none⟩ = some (.int .i64 x0) := Hmr.out.cell 0
   have k1 : wr.cell? ⟨w.heap.size, 1, none⟩ = some (.int .i64 x1) := Hmr.out.cell 1
   have k2 : wr.cell? ⟨w.heap.size, 2, none⟩ = some (.int .i64 x2) := Hmr.out.cell 2
   have k3 : wr.cell? ⟨w.heap.size, 3, none⟩ = some (.int .i64 x3) := Hmr.out.cell 3
   obtain ⟨v0, v1, v2, v3⟩ := Hrr.out.c4
   obtain ⟨z0, z1, z2, z3⟩ := Hrr.out.f4
   go_wp2_with fail
   exact ret_cell rfl rfl (by have h := Hrr.out; exact (zp7 : Holds _ (w.heap.size + 1) 28 #[.int .i64 x0, .int .i64 x1, .int .i64 x2, .int .i64 x3])) Try.underlying28 rfl (by kernel_rfl) rfl ⟨x0, x1, x2, x3, tk1, mm1, rfl, HX.out, by omega, ((((HSr.out.far (by simp only [ne_eq]; omega) _).far (by simp only [ne_eq]; omega) _).far (by simp only [ne_eq]; omega) _).far (by simp only [ne_eq]; omega) _), (grow_far (grow_far (grow_far (grow_far HGr.out (by show w.heap.size ≤ w.heap.size + 1; omega) _) (by show w.heap.size ≤ w.heap.size + 1; omega) _) (by show w.heap.size ≤ w.heap.size + 1; omega) _) (by show w.heap.size ≤ w.heap.size + 1; omega) _)⟩
end Go.Proofs.Ytigkcillgniolaa
