
import Derived.Test.YtdpgfaikmahmpaaGAA
import Derived.Test.YtdpgfaikmahmpaaGAC
import Derived.Test.YtdpgfaikmahmpaaGAE
import Derived.Test.YtdpgfaikmahmpaaGBM
set_option linter.unusedSimpArgs false
set_option linter.unusedVariables false
namespace Go.Proofs.Ytdpgfaikmahmpaa
open Go.RowKit
theorem zp6 {p : Prop} (h : p := by (repeat first | (with_reducible first | assumption | apply Holds.set5 | apply Holds.set4 | apply Holds.putL | ((refine Holds.new' _ _ ?_); (simp; done)) | refine Holds.alloc ?_ _ | refine Holds.drew ?_ | refine Holds.far ?_ (by simp only [ne_eq]; omega) _) | rfl)) : p := h
set_option maxRecDepth 100000 in
set_option maxHeartbeats 8000000 in
theorem Taken_zero (S : Nat) (A : Option Addr) (n c tk : Nat) (m : Int) (err miss : Int) (G : Option Addr) (gl d : Nat) (m0 m1 m2 m3 : Int) (hm : Mix4 m0 m1 m2 m3) (i0 : 0 ≤ miss) (i1 : miss ≤ 20) (hz : miss = 0) (w : World) (hS : Holds w S 172 #[.slice A n c, .int .i64 ((tk : Nat) : Int), .int .u32 m]) (hA : BytesAt w A n) (hn : n ≤ 9223372036854775807) (ht : tk ≤ 900000) :
  Calls Try.prog 69 #[.pointer (some ⟨S, 0, none⟩), .agg #[.int .i64 err, .int .i64 miss, .slice G gl d], .agg #[.int .i64 m0, .int .i64 m1, .int .i64 m2, .int .i64 m3]] w (TakenPost w S A n c tk miss m0 m1 m2 m3) := by
 have HZ0 := Lib.hid hz
 clear hz
 have hSl := hS.lt
 have HS0 := Lib.hid hS
 have HA0 := Lib.hid hA
 clear hS hA
 go_enter Try.func69, Try.ntmps69
 go_wp2_with fail
 refine (Among_any S A n c tk m 10 200 _ (HS0.out.up zg) (HA0.out.up zg) hn (by omega) (by decide) (by decide) (by decide) (by decide)).mono ?_
 rintro e w2 ⟨n1, mt, rfl, n10, n11, _, hs2, g2⟩
 have HSt := Lib.hid hs2
 have HGt := Lib.hid ((only_below S (zg : Below w.heap.size w _)).trans g2)
 have HAt := Lib.hid (HA0.out.grown HS0.out HGt.out)
 have Hbgt := Lib.hid (Holds.grown (zp0 : Holds _ (w.heap.size) 24 #[.int .i64 err, .int .i64 miss, .slice G gl d]) g2 (by omega))
 have Hbmt := Lib.hid (Holds.grown (zp0 : Holds _ (w.heap.size + 1) 28 #[.int .i64 m0, .int .i64 m1, .int .i64 m2, .int .i64 m3]) g2 (by omega))
 have Hbrt := Lib.hid (Holds.grown (zp0 : Holds _ (w.heap.size + 1 + 1) 30 #[.int .i64 0, .int .i64 0, .int .i64 0, .int .i64 0, .int .i64 0]) g2 (by omega))
 clear hs2 g2
 obtain ⟨kbg0t, kbg1t, kbg2t⟩ := Hbgt.out.c3
 have lbgt : w.heap.size < w2.heap.size := Hbgt.out.lt
 obtain ⟨kbm0t, kbm1t, kbm2t, kbm3t⟩ := Hbmt.out.c4
 have lbmt : w.heap.size + 1 < w2.heap.size := Hbmt.out.lt
 obtain ⟨kbr0t, kbr1t, kbr2t, kbr3t, kbr4t⟩ := Hbrt.out.c5
 obtain ⟨zbr0t, zbr1t, zbr2t, zbr3t, zbr4t⟩ := Hbrt.out.f5
 have lbrt : w.heap.size + 1 + 1 < w2.heap.size := Hbrt.out.lt
 have hz := HZ0.out
 have hzz : (miss == 0) = true := by simpa using hz
 go_wp2_with fail
 refine (Among_any S A n c (tk + 1) mt 1 5 _ HSt.out HAt.out hn (by omega) (by decide) (by decide) (by decide) (by decide)).mono ?_
 rintro e w3 ⟨r3, mu, rfl, r30, r31, _, hs3, g3⟩
 have HZ := Lib.hid hz
 clear hz hzz
 obtain ⟨nn, hnn⟩ : ∃ q, q = 40 * r3 := ⟨_, rfl⟩
 have HNN := Lib.hid hnn
 have hn0 : 10 ≤ nn := by omega
 have hn1 : nn ≤ 200 := by omega
 have HN : Hid (miss = 0 → nn % 40 = 0) := Lib.hid (fun _ => by omega)
 clear hnn
 have HSu := Lib.hid hs3
 have HGu := Lib.hid (HGt.out.trans g3)
 have HAu := Lib.hid (HA0.out.grown HS0.out HGu.out)
 have Hbgu := Lib.hid (Hbgt.out.grown g3 (by omega))
 have Hbmu := Lib.hid (Hbmt.out.grown g3 (by omega))
 have Hbru := Lib.hid (Hbrt.out.grown g3 (by omega))
 clear hs3 g3 kbg0t kbg1t kbg2t kbm0t kbm1t kbm2t kbm3t kbr0t kbr1t kbr2t kbr3t kbr4t zbr0t zbr1t zbr2t zbr3t zbr4t lbgt lbmt lbrt
 obtain ⟨kbg0u, kbg1u, kbg2u⟩ := Hbgu.out.c3
 have lbgu : w.heap.size < w3.heap.size := Hbgu.out.lt
 obtain ⟨kbm0u, kbm1u, kbm2u, kbm3u⟩ := Hbmu.out.c4
 have lbmu : w.heap.size + 1 < w3.heap.size := Hbmu.out.lt
 obtain ⟨kbr0u, kbr1u, kbr2u, kbr3u, kbr4u⟩ := Hbru.out.c5
 obtain ⟨zbr0u, zbr1u, zbr2u, zbr3u, zbr4u⟩ := Hbru.out.f5
 have lbru : w.heap.size + 1 + 1 < w3.heap.size := Hbru.out.lt
 go_wp2_with fail
 rw [← HNN.out]
 refine (Below_any S A n c (tk + 1 + 1) mu 3 _ HSu.out HAu.out hn (by omega) (by decide) (by decide)).mono ?_
 rintro e w4 ⟨sp, mv, rfl, sp0, sp1, sp2, hs4, g4⟩
 have HSv := Lib.hid hs4
 have HAv := Lib.hid (HAu.out.grown HSu.out g4)
 have HGv := Lib.hid (HGu.out.trans g4)
 have Hbgv := Lib.hid (Hbgu.out.grown g4 (by omega))
 have Hbmv := Lib.hid (Hbmu.out.grown g4 (by omega))
 have Hbrv := Lib.hid (Hbru.out.grown g4 (by omega))
 clear hs4 g4 kbg0u kbg1u kbg2u kbm0u kbm1u kbm2u kbm3u kbr0u kbr1u kbr2u kbr3u kbr4u zbr0u zbr1u zbr2u zbr3u zbr4u lbgu lbmu lbru
 obtain ⟨kbg0v, kbg1v, kbg2v⟩ := Hbgv.out.c3
 have lbgv : w.heap.size < w4.heap.size := Hbgv.out.lt
 obtain ⟨kbm0v, kbm1v, kbm2v, kbm3v⟩ := Hbmv.out.c4
 have lbmv : w.heap.size + 1 < w4.heap.size := Hbmv.out.lt
 obtain ⟨kbr0v, kbr1v, kbr2v, kbr3v, kbr4v⟩ := Hbrv.out.c5
 obtain ⟨zbr0v, zbr1v, zbr2v, zbr3v, zbr4v⟩ := Hbrv.out.f5
 have lbrv : w.heap.size + 1 + 1 < w4.heap.size := Hbrv.out.lt
 obtain ⟨⟨x00, x01⟩, ⟨x10, x11⟩, ⟨x20, x21⟩, x30, x31⟩ := mix_mul hm hn0 hn1
 have ix0 : ∀ w : World, (Instr.index 28 (.agg #[.int .i64 m0, .int .i64 m1, .int .i64 m2, .int .i64 m3]) (.int .i64 0)).run Try.prog w = .ok (.int .i64 m0) w := fun _ => by kernel_rfl
 have ix1 : ∀ w : World, (Instr.index 28 (.agg #[.int .i64 m0, .int .i64 m1, .int .i64 m2, .int .i64 m3]) (.int .i64 1)).run Try.prog w = .ok (.int .i64 m1) w := fun _ => by kernel_rfl
 have ix2 : ∀ w : World, (Instr.index 28 (.agg #[.int .i64 m0, .int .i64 m1, .int .i64 m2, .int .i64 m3]) (.int .i64 2)).run Try.prog w = .ok (.int .i64 m2) w := fun _ => by kernel_rfl
 have ix3 : ∀ w : World, (Instr.index 28 (.agg #[.int .i64 m0, .int .i64 m1, .int .i64 m2, .int .i64 m3]) (.int .i64 3)).run Try.prog w = .ok (.int .i64 m3) w := fun _ => by kernel_rfl
 go_wp2_with fail
 (refine wp_loop_rounds 5 ?_; repeat any_goals (rw [rounds_succ]; go_wp2))
 obtain ⟨q0, hq0⟩ : ∃ q, q = nn * m0 / 40 := ⟨_, rfl⟩
 obtain ⟨q1, hq1⟩ : ∃ q, q = nn * m1 / 40 := ⟨_, rfl⟩
 obtain ⟨q2, hq2⟩ : ∃ q, q = nn * m2 / 40 := ⟨_, rfl⟩
 obtain ⟨q3, hq3⟩ : ∃ q, q = nn * m3 / 40 := ⟨_, rfl⟩
 obtain ⟨l0, hl0⟩ : ∃ q, q = nn - q0 - q1 - q2 - q3 := ⟨_, rfl⟩
 obtain ⟨d0, hd0⟩ : ∃ q, q = giv l0 (nn * m0) := ⟨_, rfl⟩
 obtain ⟨l1, hl1⟩ : ∃ q, q = l0 - d0 := ⟨_, rfl⟩
 obtain ⟨d1, hd1⟩ : ∃ q, q = giv l1 (nn * m1) := ⟨_, rfl⟩
 obtain ⟨l2, hl2⟩ : ∃ q, q = l1 - d1 := ⟨_, rfl⟩
 obtain ⟨d2, hd2⟩ : ∃ q, q = giv l2 (nn * m2) := ⟨_, rfl⟩
 obtain ⟨l3, hl3⟩ : ∃ q, q = l2 - d2 := ⟨_, rfl⟩
 obtain ⟨d3, hd3⟩ : ∃ q, q = giv l3 (nn * m3) := ⟨_, rfl⟩
 obtain ⟨l4, hl4⟩ : ∃ q, q = l3 - d3 := ⟨_, rfl⟩
 have b0 : 0 ≤ q0 ∧ q0 ≤ 200 := by rw [hq0]; omega
 have b1 : 0 ≤ q1 ∧ q1 ≤ 200 := by rw [hq1]; omega
 have b2 : 0 ≤ q2 ∧ q2 ≤ 200 := by rw [hq2]; omega
 have b3 : 0 ≤ q3 ∧ q3 ≤ 200 := by rw [hq3]; omega
 have e0 : 0 ≤ d0 ∧ d0 ≤ 1 := by rw [hd0]; unfold giv; split <;> omega
 have e1 : 0 ≤ d1 ∧ d1 ≤ 1 := by rw [hd1]; unfold giv; split <;> omega
 have e2 : 0 ≤ d2 ∧ d2 ≤ 1 := by rw [hd2]; unfold giv; split <;> omega
 have e3 : 0 ≤ d3 ∧ d3 ≤ 1 := by rw [hd3]; unfold giv; split <;> omega
 have hl0b : -800 ≤ l0 ∧ l0 ≤ 200 := by omega
 rw [← hq0, ← hq1, ← hq2, ← hq3]
 have HQ := Lib.hid hl0
 have D0 := Lib.hid hd0
 have D1 := Lib.hid hd1
 have D2 := Lib.hid hd2
 have D3 := Lib.hid hd3
 have E1 := Lib.hid hl1
 have E2 := Lib.hid hl2
 have E3 := Lib.hid hl3
 have E4 := Lib.hid hl4
 have l1b : -900 ≤ l1 ∧ l1 ≤ 200 := by omega
 have l2b : -900 ≤ l2 ∧ l2 ≤ 200 := by omega
 have l3b : -900 ≤ l3 ∧ l3 ≤ 200 := by omega
 have l4b : -900 ≤ l4 ∧ l4 ≤ 200 := by omega
 have Q0 := Lib.hid hq0
 have Q1 := Lib.hid hq1
 have Q2 := Lib.hid hq2
 have Q3 := Lib.hid hq3
 rw [← hl0]
 clear hl0 hl1 hl2 hl3 hl4 hd0 hd1 hd2 hd3 hq0 hq1 hq2 hq3
 go_loopw [9, 49] (fun v9 v49 wr => TkRel w4 sp l0 l1 l2 l3 l4 q0 q1 q2 q3 d0 d1 d2 d3 v9 v49 wr) (fun _ v49 _ => 4 - (intOf v49).toNat)
 case atStart => exact ⟨0, l0, q0, q1, q2, q3, rfl, rfl, Lib.hid (.inl ⟨rfl, rfl, rfl, rfl, rfl, rfl⟩), Holds.new _ _ _, (Below.refl _ _).alloc (Nat.le_refl _) _⟩
 case round =>
  obtain ⟨i, l, g0, g1, g2, g3, rfl, rfl, hc, hh, hb⟩ := hrel
  have HH := Lib.hid hh
  have hbs := hb.size
  clear hh
  obtain ⟨c0, c1, c2, c3, c4⟩ := HH.out.c5
  obtain ⟨z0, z1, z2, z3, z4⟩ := HH.out.f5
  have hlt := HH.out.lt
  rcases hc.out with ⟨hi, u, v0, v1, v2, v3⟩ | ⟨hi, u, v0, v1, v2, v3⟩ | ⟨hi, u, v0, v1, v2, v3⟩ | ⟨hi, u, v0, v1, v2, v3⟩ | ⟨hi, u, v0, v1, v2, v3⟩ <;> subst i l g0 g1 g2 g3 <;> clear hc
  ·by_cases h1 : 0 < l0
   ·by_cases h2 : 0 < nn * m0 % 40
    ·have hd : d0 = 1 := by rw [D0.out]; simp [giv, h1, h2]
     have HD := Lib.hid hd
     clear hd
     go_wp2_with fail
     go_roundw
     case rel => exact ⟨1, _, _, _, _, _, rfl, rfl, Lib.hid (.inr (.inl ⟨rfl, (by have := E1.out; have := HD.out; omega), (by have := HD.out; omega), rfl, rfl, rfl⟩)), (Holds.putL HH.out rfl), zg⟩
     case measure => simp [intOf]
    ·have hd : d0 = 0 := by rw [D0.out]; simp [giv, h1, h2]
     have HD := Lib.hid hd
     clear hd
     go_wp2_with fail
     go_roundw
     case rel => exact ⟨1, _, _, _, _, _, rfl, rfl, Lib.hid (.inr (.inl ⟨rfl, (by have := E1.out; have := HD.out; omega), (by have := HD.out; omega), rfl, rfl, rfl⟩)), HH.out, hb⟩
     case measure => simp [intOf]
   ·have hd : d0 = 0 := by rw [D0.out]; simp [giv, h1]
    have HD := Lib.hid hd
    clear hd
    go_wp2_with fail
    go_roundw
    case rel => exact ⟨1, _, _, _, _, _, rfl, rfl, Lib.hid (.inr (.inl ⟨rfl, (by have := E1.out; have := HD.out; omega), (by have := HD.out; omega), rfl, rfl, rfl⟩)), HH.out, hb⟩
    case measure => simp [intOf]
  ·by_cases h1 : 0 < l1
   ·by_cases h2 : 0 < nn * m1 % 40
    ·have hd : d1 = 1 := by rw [D1.out]; simp [giv, h1, h2]
     have HD := Lib.hid hd
     clear hd
     go_wp2_with fail
     go_roundw
     case rel => exact ⟨2, _, _, _, _, _, rfl, rfl, Lib.hid (.inr (.inr (.inl ⟨rfl, (by have := E2.out; have := HD.out; omega), rfl, (by have := HD.out; omega), rfl, rfl⟩))), (Holds.putL HH.out rfl), zg⟩
     case measure => simp [intOf]
    ·have hd : d1 = 0 := by rw [D1.out]; simp [giv, h1, h2]
     have HD := Lib.hid hd
     clear hd
     go_wp2_with fail
     go_roundw
     case rel => exact ⟨2, _, _, _, _, _, rfl, rfl, Lib.hid (.inr (.inr (.inl ⟨rfl, (by have := E2.out; have := HD.out; omega), rfl, (by have := HD.out; omega), rfl, rfl⟩))), HH.out, hb⟩
     case measure => simp [intOf]
   ·have hd : d1 = 0 := by rw [D1.out]; simp [giv, h1]
    have HD := Lib.hid hd
    clear hd
    go_wp2_with fail
    go_roundw
    case rel => exact ⟨2, _, _, _, _, _, rfl, rfl, Lib.hid (.inr (.inr (.inl ⟨rfl, (by have := E2.out; have := HD.out; omega), rfl, (by have := HD.out; omega), rfl, rfl⟩))), HH.out, hb⟩
    case measure => simp [intOf]
  ·by_cases h1 : 0 < l2
   ·by_cases h2 : 0 < nn * m2 % 40
    ·have hd : d2 = 1 := by rw [D2.out]; simp [giv, h1, h2]
     have HD := Lib.hid hd
     clear hd
     go_wp2_with fail
     go_roundw
     case rel => exact ⟨3, _, _, _, _, _, rfl, rfl, Lib.hid (.inr (.inr (.inr (.inl ⟨rfl, (by have := E3.out; have := HD.out; omega), rfl, rfl, (by have := HD.out; omega), rfl⟩)))), (Holds.putL HH.out rfl), zg⟩
     case measure => simp [intOf]
    ·have hd : d2 = 0 := by rw [D2.out]; simp [giv, h1, h2]
     have HD := Lib.hid hd
     clear hd
     go_wp2_with fail
     go_roundw
     case rel => exact ⟨3, _, _, _, _, _, rfl, rfl, Lib.hid (.inr (.inr (.inr (.inl ⟨rfl, (by have := E3.out; have := HD.out; omega), rfl, rfl, (by have := HD.out; omega), rfl⟩)))), HH.out, hb⟩
     case measure => simp [intOf]
   ·have hd : d2 = 0 := by rw [D2.out]; simp [giv, h1]
    have HD := Lib.hid hd
    clear hd
    go_wp2_with fail
    go_roundw
    case rel => exact ⟨3, _, _, _, _, _, rfl, rfl, Lib.hid (.inr (.inr (.inr (.inl ⟨rfl, (by have := E3.out; have := HD.out; omega), rfl, rfl, (by have := HD.out; omega), rfl⟩)))), HH.out, hb⟩
    case measure => simp [intOf]
  ·by_cases h1 : 0 < l3
   ·by_cases h2 : 0 < nn * m3 % 40
    ·have hd : d3 = 1 := by rw [D3.out]; simp [giv, h1, h2]
     have HD := Lib.hid hd
     clear hd
     go_wp2_with fail
     go_roundw
     case rel => exact ⟨4, _, _, _, _, _, rfl, rfl, Lib.hid (.inr (.inr (.inr (.inr (⟨rfl, (by have := E4.out; have := HD.out; omega), rfl, rfl, rfl, (by have := HD.out; omega)⟩))))), (Holds.putL HH.out rfl), zg⟩
     case measure => simp [intOf]
    ·have hd : d3 = 0 := by rw [D3.out]; simp [giv, h1, h2]
     have HD := Lib.hid hd
     clear hd
     go_wp2_with fail
     go_roundw
     case rel => exact ⟨4, _, _, _, _, _, rfl, rfl, Lib.hid (.inr (.inr (.inr (.inr (⟨rfl, (by have := E4.out; have := HD.out; omega), rfl, rfl, rfl, (by have := HD.out; omega)⟩))))), HH.out, hb⟩
     case measure => simp [intOf]
   ·have hd : d3 = 0 := by rw [D3.out]; simp [giv, h1]
    have HD := Lib.hid hd
    clear hd
    go_wp2_with fail
    go_roundw
    case rel => exact ⟨4, _, _, _, _, _, rfl, rfl, Lib.hid (.inr (.inr (.inr (.inr (⟨rfl, (by have := E4.out; have := HD.out; omega), rfl, rfl, rfl, (by have := HD.out; omega)⟩))))), HH.out, hb⟩
    case measure => simp [intOf]
  ·have hsz4 : w.heap.size + 1 + 1 < w4.heap.size := lbrv
   obtain ⟨G0, G1, G2, G3, HK, HHr⟩ : ∃ G0 G1 G2 G3 : Int, Hid (MixH nn m0 m1 m2 m3 miss G0 G1 G2 G3) ∧ Hid (Holds wr w4.heap.size 30 #[.int .i64 sp, .int .i64 G0, .int .i64 G1, .int .i64 G2, .int .i64 G3]) := ⟨_, _, _, _, Lib.hid (grains_qd hm (by omega) Q0.out Q1.out Q2.out Q3.out HQ.out D0.out E1.out D1.out E2.out D2.out E3.out D3.out HN.out), HH⟩
   clear HH c0 c1 c2 c3 c4 z0 z1 z2 z3 z4 hlt
   have HSr := Lib.hid (HSv.out.up hb)
   have HAr := Lib.hid (HAv.out.up hb)
   have HGr := Lib.hid (only_up HGv.out hb)
   have Hbhr := HHr
   have Hbgr := Lib.hid (Hbgv.out.up hb)
   have Hbrr := Lib.hid (Hbrv.out.up hb)
   clear kbg0v kbg1v kbg2v kbm0v kbm1v kbm2v kbm3v kbr0v kbr1v kbr2v kbr3v kbr4v zbr0v zbr1v zbr2v zbr3v zbr4v lbgv lbmv lbrv HHr
   go_wp2_with fail
   refine (Below_any S A n c ((tk + 1 + 1) + 1) mv 4 _ HSr.out HAr.out hn (by omega) (by decide) (by decide)).mono ?_
   rintro e w5 ⟨ia, m5, rfl, ia0, ia1, _, hs5, g5⟩
   have HS5 := Lib.hid hs5
   have HG5 := Lib.hid (HGr.out.trans g5)
   have HA5 := Lib.hid (HAr.out.grown HSr.out g5)
   have Hbg5 := Lib.hid (Hbgr.out.grown g5 (by omega))
   have Hbr5 := Lib.hid (Hbrr.out.grown g5 (by omega))
   have Hbh5 := Lib.hid (Hbhr.out.grown g5 (by omega))
   clear hs5 g5
   obtain ⟨ka, rfl⟩ := Int.eq_ofNat_of_zero_le ia0
   have hka : ka < 4 := by omega
   go_wp2_with fail
   refine (Below_any S A n c ((tk + 1 + 1) + 1 + 1) m5 4 _ HS5.out HA5.out hn (by omega) (by decide) (by decide)).mono ?_
   rintro e w6 ⟨ib, m6, rfl, ib0, ib1, _, hs6, g6⟩
   have HS6 := Lib.hid hs6
   have HG6 := Lib.hid (HG5.out.trans g6)
   have HA6 := Lib.hid (HA5.out.grown HS5.out g6)
   have Hbg6 := Lib.hid (Hbg5.out.grown g6 (by omega))
   have Hbr6 := Lib.hid (Hbr5.out.grown g6 (by omega))
   have Hbh6 := Lib.hid (Hbh5.out.grown g6 (by omega))
   clear hs6 g6
   obtain ⟨kb, rfl⟩ := Int.eq_ofNat_of_zero_le ib0
   have hkb : kb < 4 := by omega
   obtain ⟨ga, hga⟩ : ∃ q, q = gat G0 G1 G2 G3 ka := ⟨_, rfl⟩
   obtain ⟨gb, hgb⟩ : ∃ q, q = gat G0 G1 G2 G3 kb := ⟨_, rfl⟩
   have ga0 : 0 ≤ ga ∧ ga ≤ 200 := hga ▸ gat_bd HK.out hn1 ka
   have gb0 : 0 ≤ gb ∧ gb ≤ 200 := hgb ▸ gat_bd HK.out hn1 kb
   have HGA := Lib.hid hga
   have HGB := Lib.hid hgb
   clear hga hgb
   have hs6 := HS6.out.lt
   go_wp2_with fail
   rename_i Ko hKo Kc hKc
   have HSL := Lib.hid (show slotsOf [some 76, some 77, some 78, some 79, some 80, some 81, some 82, some 83, some 84, some 16] = [76, 77, 78, 79, 80, 81, 82, 83, 84, 16] from rfl)
   refine wp_region_partsG (by kernel_rfl) [some 76, some 77, some 78, some 79, some 80, some 81, some 82, some 83, some 84, some 16] (fun jq xq w' => match jq with
    | 0 => xq 76 = .pointer (some ⟨S, 0, none⟩)
    | 1 => xq 77 = .pointer (some ⟨w.heap.size, 1, none⟩)
    | 2 => xq 78 = .int .i64 miss
    | 3 => ∃ r mm, xq 79 = .int .i64 r ∧ 0 ≤ r ∧ r < max 1 miss ∧ Holds w' S 172 #[.slice A n c, .int .i64 (((tk + 1 + 1) + 1 + 1 + 1 + 1 : Nat) : Int), .int .u32 mm]
    | 4 => xq 80 = .int .i64 (ka : Int)
    | 5 => xq 81 = .pointer (some ⟨w4.heap.size, 1, none⟩)
    | 6 => xq 82 = .pointer (some ⟨w4.heap.size, 1 + ka, none⟩)
    | 7 => xq 83 = .int .i64 ga
    | 8 => ∃ t, xq 84 = .int .i64 t ∧ 0 ≤ t ∧ t < max 1 miss ∧ t ≤ ga
    | 9 => ∃ t, xq 16 = .int .i64 t ∧ 0 ≤ t ∧ t < max 1 miss ∧ t ≤ ga
    | 10 => Holds w' S 172 #[.slice A n c, .int .i64 (((tk + 1 + 1) + 1 + 1 + 1 : Nat) : Int), .int .u32 m6]
    | _ => True) [[76], [77], [78], [79], [80], [81], [82], [83], [84], [16], []] [(3, 10)] (fun w' => w6.grownBy w' (some S)) (by kernel_rfl) ?_ ?_ (fun w' w'' hb h => only_up h hb) (only_below S (Below.refl _ _)) ?_ ?_ ?_
   ·intro jq xq xq' wq h hv
    match jq, h, hv with
    | 0, h, hv => show xq' 76 = .pointer (some ⟨S, 0, none⟩); rw [← h 76 (by decide)]; exact hv
    | 1, h, hv => show xq' 77 = .pointer (some ⟨w.heap.size, 1, none⟩); rw [← h 77 (by decide)]; exact hv
    | 2, h, hv => show xq' 78 = .int .i64 miss; rw [← h 78 (by decide)]; exact hv
    | 3, h, hv => show ∃ r mm, xq' 79 = .int .i64 r ∧ 0 ≤ r ∧ r < max 1 miss ∧ Holds wq S 172 #[.slice A n c, .int .i64 (((tk + 1 + 1) + 1 + 1 + 1 + 1 : Nat) : Int), .int .u32 mm]; rw [← h 79 (by decide)]; exact hv
    | 4, h, hv => show xq' 80 = .int .i64 (ka : Int); rw [← h 80 (by decide)]; exact hv
    | 5, h, hv => show xq' 81 = .pointer (some ⟨w4.heap.size, 1, none⟩); rw [← h 81 (by decide)]; exact hv
    | 6, h, hv => show xq' 82 = .pointer (some ⟨w4.heap.size, 1 + ka, none⟩); rw [← h 82 (by decide)]; exact hv
    | 7, h, hv => show xq' 83 = .int .i64 ga; rw [← h 83 (by decide)]; exact hv
    | 8, h, hv => show ∃ t, xq' 84 = .int .i64 t ∧ 0 ≤ t ∧ t < max 1 miss ∧ t ≤ ga; rw [← h 84 (by decide)]; exact hv
    | 9, h, hv => show ∃ t, xq' 16 = .int .i64 t ∧ 0 ≤ t ∧ t < max 1 miss ∧ t ≤ ga; rw [← h 16 (by decide)]; exact hv
    | 10, h, hv => exact hv
    | _ + 11, _, _ => trivial
   ·intro jq xq wq w' hb' hv
    match jq, hv with
    | 0, hv => exact hv
    | 1, hv => exact hv
    | 2, hv => exact hv
    | 3, ⟨b0, b1, h0, h1, h2, h3⟩ => exact ⟨b0, b1, h0, h1, h2, h3.up hb'⟩
    | 4, hv => exact hv
    | 5, hv => exact hv
    | 6, hv => exact hv
    | 7, hv => exact hv
    | 8, ⟨b0, h0, h1, h2, h3⟩ => exact ⟨b0, h0, h1, h2, h3⟩
    | 9, ⟨b0, h0, h1, h2, h3⟩ => exact ⟨b0, h0, h1, h2, h3⟩
    | 10, h0 => exact h0.up hb'
    | _ + 11, _ => trivial
   ·intro jq hj
    match jq, hj with
    | 0, hj => exact absurd hj (by decide)
    | 1, hj => exact absurd hj (by decide)
    | 2, hj => exact absurd hj (by decide)
    | 3, hj => exact absurd hj (by decide)
    | 4, hj => exact absurd hj (by decide)
    | 5, hj => exact absurd hj (by decide)
    | 6, hj => exact absurd hj (by decide)
    | 7, hj => exact absurd hj (by decide)
    | 8, hj => exact absurd hj (by decide)
    | 9, hj => exact absurd hj (by decide)
    | 10, _ => exact HS6.out
    | _ + 11, _ => trivial
   ·refine ⟨?_, ?_, ?_, ?_, ?_, ?_, ?_, ?_, ?_, ?_, trivial⟩
    ·intro xq w1 hb1 hx K hK0
     have hK := fun v w' hb => hK0 v w' (.inl hb)
     clear hx hKc hK0
     simp only [frameOf, fill, setSlot, sg, Nat.reduceBEq, if_true, if_false, Nat.reduceAdd, Nat.reduceEqDiff, HSL.out] at hK ⊢
     go_wp2_with ((go_at_call 74; refine (Below_any S A n c ((tk + 1 + 1) + 1 + 1 + 1) m6 miss _ fiS_0 (HA6.out.grown HS6.out hb1) hn (by omega) (by omega) (by omega)).mono ?_; rintro e w2 ⟨r, mm, rfl, r0, r1, _, hs, g⟩))
     exact hK _ _ (Below.refl _ _) rfl
    ·intro xq w1 hb1 hx K hK0
     have hK := fun v w' hb => hK0 v w' (.inl hb)
     clear hx hKc hK0
     simp only [frameOf, fill, setSlot, sg, Nat.reduceBEq, if_true, if_false, Nat.reduceAdd, Nat.reduceEqDiff, HSL.out] at hK ⊢
     go_wp2_with ((go_at_call 74; refine (Below_any S A n c ((tk + 1 + 1) + 1 + 1 + 1) m6 miss _ fiS_0 (HA6.out.grown HS6.out hb1) hn (by omega) (by omega) (by omega)).mono ?_; rintro e w2 ⟨r, mm, rfl, r0, r1, _, hs, g⟩))
     exact hK _ _ (Below.refl _ _) rfl
    ·intro xq w1 hb1 hx K hK0
     have hK := fun v w' hb => hK0 v w' (.inl hb)
     have e77 : xq 77 = .pointer (some ⟨w.heap.size, 1, none⟩) := hx 1 (by rfl) (by rfl)
     clear hx hKc hK0
     have k := (Hbg6.out.grown hb1 (by omega : w.heap.size ≠ S)).cell 1
     have k : w1.cell? ⟨w.heap.size, 1, none⟩ = some (.int .i64 miss) := k
     simp only [frameOf, fill, setSlot, sg, Nat.reduceBEq, if_true, if_false, Nat.reduceAdd, Nat.reduceEqDiff, HSL.out] at hK ⊢
     simp only [e77] at hK ⊢
     clear e77
     go_wp2_with ((go_at_call 74; refine (Below_any S A n c ((tk + 1 + 1) + 1 + 1 + 1) m6 miss _ fiS_0 (HA6.out.grown HS6.out hb1) hn (by omega) (by omega) (by omega)).mono ?_; rintro e w2 ⟨r, mm, rfl, r0, r1, _, hs, g⟩))
     exact hK _ _ (Below.refl _ _) rfl
    ·intro xq w1 hb1 hx K hK0
     have hK := fun v w' hb => hK0 v w' (.inr hb)
     have e76 : xq 76 = .pointer (some ⟨S, 0, none⟩) := hx 0 (by rfl) (by rfl)
     have e78 : xq 78 = .int .i64 miss := hx 2 (by rfl) (by rfl)
     have fiS_0 : Holds w1 S 172 #[.slice A n c, .int .i64 (((tk + 1 + 1) + 1 + 1 + 1 : Nat) : Int), .int .u32 m6] := hx 10 (by rfl) (by rfl)
     clear hx hKc hK0
     simp only [frameOf, fill, setSlot, sg, Nat.reduceBEq, if_true, if_false, Nat.reduceAdd, Nat.reduceEqDiff, HSL.out] at hK ⊢
     simp only [e76, e78] at hK ⊢
     clear e76 e78
     go_wp2_with ((go_at_call 74; refine (Below_any S A n c ((tk + 1 + 1) + 1 + 1 + 1) m6 miss _ fiS_0 (HA6.out.grown HS6.out hb1) hn (by omega) (by omega) (by omega)).mono ?_; rintro e w2 ⟨r, mm, rfl, r0, r1, _, hs, g⟩))
     refine hK _ _ ⟨(hb1.trans g), ?_⟩ ⟨r, mm, rfl, r0, r1, hs⟩
     intro jq xq hd hne hv
     match jq, hd, hne, hv with
     | 0, _, _, hv => exact hv
     | 1, _, _, hv => exact hv
     | 2, _, _, hv => exact hv
     | 3, _, hne, _ => exact absurd rfl hne
     | 4, _, _, hv => exact hv
     | 5, _, _, hv => exact hv
     | 6, _, _, hv => exact hv
     | 7, _, _, hv => exact hv
     | 8, _, _, hv => exact hv
     | 9, _, _, hv => exact hv
     | 10, hd, _, _ => exact absurd hd (by decide)
     | _ + 11, _, _, _ => trivial
    ·intro xq w1 hb1 hx K hK0
     have hK := fun v w' hb => hK0 v w' (.inl hb)
     clear hx hKc hK0
     simp only [frameOf, fill, setSlot, sg, Nat.reduceBEq, if_true, if_false, Nat.reduceAdd, Nat.reduceEqDiff, HSL.out] at hK ⊢
     go_wp2_with ((go_at_call 74; refine (Below_any S A n c ((tk + 1 + 1) + 1 + 1 + 1) m6 miss _ fiS_0 (HA6.out.grown HS6.out hb1) hn (by omega) (by omega) (by omega)).mono ?_; rintro e w2 ⟨r, mm, rfl, r0, r1, _, hs, g⟩))
     exact hK _ _ (Below.refl _ _) rfl
    ·intro xq w1 hb1 hx K hK0
     have hK := fun v w' hb => hK0 v w' (.inl hb)
     clear hx hKc hK0
     simp only [frameOf, fill, setSlot, sg, Nat.reduceBEq, if_true, if_false, Nat.reduceAdd, Nat.reduceEqDiff, HSL.out] at hK ⊢
     go_wp2_with ((go_at_call 74; refine (Below_any S A n c ((tk + 1 + 1) + 1 + 1 + 1) m6 miss _ fiS_0 (HA6.out.grown HS6.out hb1) hn (by omega) (by omega) (by omega)).mono ?_; rintro e w2 ⟨r, mm, rfl, r0, r1, _, hs, g⟩))
     exact hK _ _ (Below.refl _ _) rfl
    ·intro xq w1 hb1 hx K hK0
     have hK := fun v w' hb => hK0 v w' (.inl hb)
     have e80 : xq 80 = .int .i64 (ka : Int) := hx 4 (by rfl) (by rfl)
     have e81 : xq 81 = .pointer (some ⟨w4.heap.size, 1, none⟩) := hx 5 (by rfl) (by rfl)
     clear hx hKc hK0
     simp only [frameOf, fill, setSlot, sg, Nat.reduceBEq, if_true, if_false, Nat.reduceAdd, Nat.reduceEqDiff, HSL.out] at hK ⊢
     simp only [e80, e81] at hK ⊢
     clear e80 e81
     go_wp2_with ((go_at_call 74; refine (Below_any S A n c ((tk + 1 + 1) + 1 + 1 + 1) m6 miss _ fiS_0 (HA6.out.grown HS6.out hb1) hn (by omega) (by omega) (by omega)).mono ?_; rintro e w2 ⟨r, mm, rfl, r0, r1, _, hs, g⟩))
     exact hK _ _ (Below.refl _ _) rfl
    ·intro xq w1 hb1 hx K hK0
     have hK := fun v w' hb => hK0 v w' (.inl hb)
     have e82 : xq 82 = .pointer (some ⟨w4.heap.size, 1 + ka, none⟩) := hx 6 (by rfl) (by rfl)
     clear hx hKc hK0
     have k : w1.cell? ⟨w4.heap.size, 1 + ka, none⟩ = some (.int .i64 ga) := by rw [HGA.out]; exact hand_at (Hbh6.out.grown hb1 (by omega)) hka
     simp only [frameOf, fill, setSlot, sg, Nat.reduceBEq, if_true, if_false, Nat.reduceAdd, Nat.reduceEqDiff, HSL.out] at hK ⊢
     simp only [e82] at hK ⊢
     clear e82
     go_wp2_with ((go_at_call 74; refine (Below_any S A n c ((tk + 1 + 1) + 1 + 1 + 1) m6 miss _ fiS_0 (HA6.out.grown HS6.out hb1) hn (by omega) (by omega) (by omega)).mono ?_; rintro e w2 ⟨r, mm, rfl, r0, r1, _, hs, g⟩))
     exact hK _ _ (Below.refl _ _) rfl
    ·intro xq w1 hb1 hx K hK0
     have hK := fun v w' hb => hK0 v w' (.inl hb)
     obtain ⟨r79, mm79, e79, f79_0, f79_1, f79_2⟩ := hx 3 (by rfl) (by rfl)
     have e83 : xq 83 = .int .i64 ga := hx 7 (by rfl) (by rfl)
     clear hx hKc hK0
     simp only [frameOf, fill, setSlot, sg, Nat.reduceBEq, if_true, if_false, Nat.reduceAdd, Nat.reduceEqDiff, HSL.out] at hK ⊢
     simp only [e79, e83] at hK ⊢
     clear e79 e83
     go_wp2_with ((go_at_call 74; refine (Below_any S A n c ((tk + 1 + 1) + 1 + 1 + 1) m6 miss _ fiS_0 (HA6.out.grown HS6.out hb1) hn (by omega) (by omega) (by omega)).mono ?_; rintro e w2 ⟨r, mm, rfl, r0, r1, _, hs, g⟩))
     all_goals exact hK _ _ (Below.refl _ _) ⟨_, rfl, by omega, by omega, by omega⟩
    ·intro xq w1 hb1 hx K hK0
     have hK := fun v w' hb => hK0 v w' (.inl hb)
     obtain ⟨t84, e84, f84_0, f84_1, f84_2⟩ := hx 8 (by rfl) (by rfl)
     clear hx hKc hK0
     simp only [frameOf, fill, setSlot, sg, Nat.reduceBEq, if_true, if_false, Nat.reduceAdd, Nat.reduceEqDiff, HSL.out] at hK ⊢
     simp only [e84] at hK ⊢
     clear e84
     go_wp2_with ((go_at_call 74; refine (Below_any S A n c ((tk + 1 + 1) + 1 + 1 + 1) m6 miss _ fiS_0 (HA6.out.grown HS6.out hb1) hn (by omega) (by omega) (by omega)).mono ?_; rintro e w2 ⟨r, mm, rfl, r0, r1, _, hs, g⟩))
     exact hK _ _ (Below.refl _ _) ⟨_, rfl, f84_0, f84_1, f84_2⟩
   ·intro xq w1 hb1 hx
    have e76 : xq 76 = .pointer (some ⟨S, 0, none⟩) := hx 0 (by decide)
    have e77 : xq 77 = .pointer (some ⟨w.heap.size, 1, none⟩) := hx 1 (by decide)
    have e78 : xq 78 = .int .i64 miss := hx 2 (by decide)
    obtain ⟨r79, mm79, e79, f79_0, f79_1, f79_2⟩ := hx 3 (by decide)
    have e80 : xq 80 = .int .i64 (ka : Int) := hx 4 (by decide)
    have e81 : xq 81 = .pointer (some ⟨w4.heap.size, 1, none⟩) := hx 5 (by decide)
    have e82 : xq 82 = .pointer (some ⟨w4.heap.size, 1 + ka, none⟩) := hx 6 (by decide)
    have e83 : xq 83 = .int .i64 ga := hx 7 (by decide)
    obtain ⟨t84, e84, f84_0, f84_1, f84_2⟩ := hx 8 (by decide)
    obtain ⟨t16, e16, f16_0, f16_1, f16_2⟩ := hx 9 (by decide)
    clear hx
    simp only [frameOf, fill, setSlot, sg, Nat.reduceBEq, if_true, if_false, Nat.reduceAdd, Nat.reduceEqDiff, HSL.out]
    simp only [e76, e77, e78, e79, e80, e81, e82, e83, e84, e16]
    clear e76 e77 e78 e79 e80 e81 e82 e83 e84 e16
    refine hKc _ _ ?_
    have HSx := Lib.hid f79_2
    have HGx := Lib.hid (HG6.out.trans hb1)
    have hs1 := hb1.size
    have Hbrx := Lib.hid (Hbr6.out.grown hb1 (by omega))
    have Hbhx := Lib.hid (Hbh6.out.grown hb1 (by omega))
    obtain ⟨kbr0x, kbr1x, kbr2x, kbr3x, kbr4x⟩ := Hbrx.out.c5
    obtain ⟨zbr0x, zbr1x, zbr2x, zbr3x, zbr4x⟩ := Hbrx.out.f5
    have lbrx : w.heap.size + 1 + 1 < w1.heap.size := Hbrx.out.lt
    have lbhx : w4.heap.size < w1.heap.size := Hbhx.out.lt
    by_cases hab : ka = kb
    ·subst hab
     obtain ⟨kbh0x, kbh1x, kbh2x, kbh3x, kbh4x⟩ := Hbhx.out.c5
     have lbhx : w4.heap.size < w1.heap.size := Hbhx.out.lt
     go_wp2_with fail
     exact ret_cell rfl rfl ((by have h := Hbrx.out; exact ((zp6 : Holds _ (w.heap.size + 1 + 1) 30 #[.int .i64 sp, .int .i64 G0, .int .i64 G1, .int .i64 G2, .int .i64 G3]) : Holds _ (w.heap.size + 1 + 1) 30 #[.int .i64 sp, .int .i64 G0, .int .i64 G1, .int .i64 G2, .int .i64 G3]))) Try.underlying30 rfl (by kernel_rfl) rfl ⟨⟨sp, G0, G1, G2, G3⟩, _, _, rfl, mixh_taken HK.out hn0 hn1 sp0 (by omega) i0, (by omega : (tk + 1 + 1) + 1 + 1 + 1 + 1 ≤ tk + 8), (((((HSx.out.far (by simp only [ne_eq]; omega) _).far (by simp only [ne_eq]; omega) _).far (by simp only [ne_eq]; omega) _).far (by simp only [ne_eq]; omega) _).far (by simp only [ne_eq]; omega) _), (grow_far (grow_far (grow_far (grow_far (grow_far HGx.out (by show w.heap.size ≤ w.heap.size + 1 + 1; omega) _) (by show w.heap.size ≤ w.heap.size + 1 + 1; omega) _) (by show w.heap.size ≤ w.heap.size + 1 + 1; omega) _) (by show w.heap.size ≤ w.heap.size + 1 + 1; omega) _) (by show w.heap.size ≤ w.heap.size + 1 + 1; omega) _)⟩
    ·have hne : ((ka : Int) != (kb : Int)) = true := by rw [bne_iff_ne]; omega
     go_wp2_with fail
     have hKc := hKo
     have HSL := Lib.hid (show slotsOf [some 88, some 89, some 90, some 91, some 92, some 93, some 94, some 95, some 96, some 97, some 98, some 99, some 100, some 101, some 102, some 103, none, some 104, some 105, none] = [88, 89, 90, 91, 92, 93, 94, 95, 96, 97, 98, 99, 100, 101, 102, 103, 104, 105] from rfl)
     refine wp_region_partsG (by kernel_rfl) [some 88, some 89, some 90, some 91, some 92, some 93, some 94, some 95, some 96, some 97, some 98, some 99, some 100, some 101, some 102, some 103, none, some 104, some 105, none] (fun jq xq w' => match jq with
      | 0 => xq 88 = .int .i64 (ka : Int)
      | 1 => xq 89 = .int .i64 (kb : Int)
      | 2 => xq 90 = .int .i64 (ka : Int)
      | 3 => xq 91 = .pointer (some ⟨w4.heap.size, 1, none⟩)
      | 4 => xq 92 = .pointer (some ⟨w4.heap.size, 1 + ka, none⟩)
      | 5 => xq 93 = .int .i64 ga
      | 6 => xq 94 = .int .i64 t16
      | 7 => xq 95 = .int .i64 (ga - t16)
      | 8 => xq 96 = .int .i64 (kb : Int)
      | 9 => xq 97 = .pointer (some ⟨w4.heap.size, 1, none⟩)
      | 10 => xq 98 = .pointer (some ⟨w4.heap.size, 1 + kb, none⟩)
      | 11 => xq 99 = .int .i64 gb
      | 12 => xq 100 = .int .i64 t16
      | 13 => xq 101 = .int .i64 (gb + t16)
      | 14 => xq 102 = .pointer (some ⟨w4.heap.size, 1, none⟩)
      | 15 => xq 103 = .pointer (some ⟨w4.heap.size, 1 + ka, none⟩)
      | 16 => Holds w' w4.heap.size 30 (([.int .i64 sp, .int .i64 G0, .int .i64 G1, .int .i64 G2, .int .i64 G3] : List Value).set (1 + ka) (.int .i64 (ga - t16))).toArray
      | 17 => xq 104 = .pointer (some ⟨w4.heap.size, 1, none⟩)
      | 18 => xq 105 = .pointer (some ⟨w4.heap.size, 1 + kb, none⟩)
      | 19 => Holds w' w4.heap.size 30 ((([.int .i64 sp, .int .i64 G0, .int .i64 G1, .int .i64 G2, .int .i64 G3] : List Value).set (1 + ka) (.int .i64 (ga - t16))).set (1 + kb) (.int .i64 (gb + t16))).toArray
      | 20 => Holds w' w4.heap.size 30 #[.int .i64 sp, .int .i64 G0, .int .i64 G1, .int .i64 G2, .int .i64 G3]
      | _ => True) [[88], [89], [90], [91], [92], [93], [94], [95], [96], [97], [98], [99], [100], [101], [102], [103], [], [104], [105], [], []] [(16, 20), (19, 16), (19, 20)] (Below w4.heap.size w1) (by kernel_rfl) ?_ ?_ (fun w' w'' hb h => h.trans (hb.mono (Nat.le_trans (by omega) h.size))) (Below.refl _ _) ?_ ?_ ?_
     ·intro jq xq xq' wq h hv
      match jq, h, hv with
      | 0, h, hv => show xq' 88 = .int .i64 (ka : Int); rw [← h 88 (by decide)]; exact hv
      | 1, h, hv => show xq' 89 = .int .i64 (kb : Int); rw [← h 89 (by decide)]; exact hv
      | 2, h, hv => show xq' 90 = .int .i64 (ka : Int); rw [← h 90 (by decide)]; exact hv
      | 3, h, hv => show xq' 91 = .pointer (some ⟨w4.heap.size, 1, none⟩); rw [← h 91 (by decide)]; exact hv
      | 4, h, hv => show xq' 92 = .pointer (some ⟨w4.heap.size, 1 + ka, none⟩); rw [← h 92 (by decide)]; exact hv
      | 5, h, hv => show xq' 93 = .int .i64 ga; rw [← h 93 (by decide)]; exact hv
      | 6, h, hv => show xq' 94 = .int .i64 t16; rw [← h 94 (by decide)]; exact hv
      | 7, h, hv => show xq' 95 = .int .i64 (ga - t16); rw [← h 95 (by decide)]; exact hv
      | 8, h, hv => show xq' 96 = .int .i64 (kb : Int); rw [← h 96 (by decide)]; exact hv
      | 9, h, hv => show xq' 97 = .pointer (some ⟨w4.heap.size, 1, none⟩); rw [← h 97 (by decide)]; exact hv
      | 10, h, hv => show xq' 98 = .pointer (some ⟨w4.heap.size, 1 + kb, none⟩); rw [← h 98 (by decide)]; exact hv
      | 11, h, hv => show xq' 99 = .int .i64 gb; rw [← h 99 (by decide)]; exact hv
      | 12, h, hv => show xq' 100 = .int .i64 t16; rw [← h 100 (by decide)]; exact hv
      | 13, h, hv => show xq' 101 = .int .i64 (gb + t16); rw [← h 101 (by decide)]; exact hv
      | 14, h, hv => show xq' 102 = .pointer (some ⟨w4.heap.size, 1, none⟩); rw [← h 102 (by decide)]; exact hv
      | 15, h, hv => show xq' 103 = .pointer (some ⟨w4.heap.size, 1 + ka, none⟩); rw [← h 103 (by decide)]; exact hv
      | 16, h, hv => exact hv
      | 17, h, hv => show xq' 104 = .pointer (some ⟨w4.heap.size, 1, none⟩); rw [← h 104 (by decide)]; exact hv
      | 18, h, hv => show xq' 105 = .pointer (some ⟨w4.heap.size, 1 + kb, none⟩); rw [← h 105 (by decide)]; exact hv
      | 19, h, hv => exact hv
      | 20, h, hv => exact hv
      | _ + 21, _, _ => trivial
     ·intro jq xq wq w' hb' hv
      match jq, hv with
      | 0, hv => exact hv
      | 1, hv => exact hv
      | 2, hv => exact hv
      | 3, hv => exact hv
      | 4, hv => exact hv
      | 5, hv => exact hv
      | 6, hv => exact hv
      | 7, hv => exact hv
      | 8, hv => exact hv
      | 9, hv => exact hv
      | 10, hv => exact hv
      | 11, hv => exact hv
      | 12, hv => exact hv
      | 13, hv => exact hv
      | 14, hv => exact hv
      | 15, hv => exact hv
      | 16, h0 => exact h0.up hb'
      | 17, hv => exact hv
      | 18, hv => exact hv
      | 19, h0 => exact h0.up hb'
      | 20, h0 => exact h0.up hb'
      | _ + 21, _ => trivial
     ·intro jq hj
      match jq, hj with
      | 0, hj => exact absurd hj (by decide)
      | 1, hj => exact absurd hj (by decide)
      | 2, hj => exact absurd hj (by decide)
      | 3, hj => exact absurd hj (by decide)
      | 4, hj => exact absurd hj (by decide)
      | 5, hj => exact absurd hj (by decide)
      | 6, hj => exact absurd hj (by decide)
      | 7, hj => exact absurd hj (by decide)
      | 8, hj => exact absurd hj (by decide)
      | 9, hj => exact absurd hj (by decide)
      | 10, hj => exact absurd hj (by decide)
      | 11, hj => exact absurd hj (by decide)
      | 12, hj => exact absurd hj (by decide)
      | 13, hj => exact absurd hj (by decide)
      | 14, hj => exact absurd hj (by decide)
      | 15, hj => exact absurd hj (by decide)
      | 16, hj => exact absurd hj (by decide)
      | 17, hj => exact absurd hj (by decide)
      | 18, hj => exact absurd hj (by decide)
      | 19, hj => exact absurd hj (by decide)
      | 20, _ => exact Hbhx.out
      | _ + 21, _ => trivial
     ·refine ⟨?_, ?_, ?_, ?_, ?_, ?_, ?_, ?_, ?_, ?_, ?_, ?_, ?_, ?_, ?_, ?_, ?_, ?_, ?_, ?_, trivial⟩
      ·intro xq wy hby hx K hK0
       have hK := fun v w' hb => hK0 v w' (.inl hb)
       clear hx hKc hK0
       simp only [frameOf, fill, setSlot, sg, Nat.reduceBEq, if_true, if_false, Nat.reduceAdd, Nat.reduceEqDiff, HSL.out] at hK ⊢
       go_wp2_with (fail)
       exact hK _ _ (Below.refl _ _) rfl
      ·intro xq wy hby hx K hK0
       have hK := fun v w' hb => hK0 v w' (.inl hb)
       clear hx hKc hK0
       simp only [frameOf, fill, setSlot, sg, Nat.reduceBEq, if_true, if_false, Nat.reduceAdd, Nat.reduceEqDiff, HSL.out] at hK ⊢
       go_wp2_with (fail)
       exact hK _ _ (Below.refl _ _) rfl
      ·intro xq wy hby hx K hK0
       have hK := fun v w' hb => hK0 v w' (.inl hb)
       clear hx hKc hK0
       simp only [frameOf, fill, setSlot, sg, Nat.reduceBEq, if_true, if_false, Nat.reduceAdd, Nat.reduceEqDiff, HSL.out] at hK ⊢
       go_wp2_with (fail)
       exact hK _ _ (Below.refl _ _) rfl
      ·intro xq wy hby hx K hK0
       have hK := fun v w' hb => hK0 v w' (.inl hb)
       clear hx hKc hK0
       simp only [frameOf, fill, setSlot, sg, Nat.reduceBEq, if_true, if_false, Nat.reduceAdd, Nat.reduceEqDiff, HSL.out] at hK ⊢
       go_wp2_with (fail)
       exact hK _ _ (Below.refl _ _) rfl
      ·intro xq wy hby hx K hK0
       have hK := fun v w' hb => hK0 v w' (.inl hb)
       have e90 : xq 90 = .int .i64 (ka : Int) := hx 2 (by rfl) (by rfl)
       have e91 : xq 91 = .pointer (some ⟨w4.heap.size, 1, none⟩) := hx 3 (by rfl) (by rfl)
       clear hx hKc hK0
       simp only [frameOf, fill, setSlot, sg, Nat.reduceBEq, if_true, if_false, Nat.reduceAdd, Nat.reduceEqDiff, HSL.out] at hK ⊢
       simp only [e90, e91] at hK ⊢
       clear e90 e91
       go_wp2_with (fail)
       exact hK _ _ (Below.refl _ _) rfl
      ·intro xq wy hby hx K hK0
       have hK := fun v w' hb => hK0 v w' (.inl hb)
       have e92 : xq 92 = .pointer (some ⟨w4.heap.size, 1 + ka, none⟩) := hx 4 (by rfl) (by rfl)
       have fib_0 : Holds wy w4.heap.size 30 #[.int .i64 sp, .int .i64 G0, .int .i64 G1, .int .i64 G2, .int .i64 G3] := hx 20 (by rfl) (by rfl)
       clear hx hKc hK0
       have ca : wy.cell? ⟨w4.heap.size, 1 + ka, none⟩ = some (.int .i64 ga) := by rw [HGA.out]; exact hand_at fib_0 hka
       simp only [frameOf, fill, setSlot, sg, Nat.reduceBEq, if_true, if_false, Nat.reduceAdd, Nat.reduceEqDiff, HSL.out] at hK ⊢
       simp only [e92] at hK ⊢
       clear e92
       go_wp2_with (fail)
       exact hK _ _ (Below.refl _ _) rfl
      ·intro xq wy hby hx K hK0
       have hK := fun v w' hb => hK0 v w' (.inl hb)
       clear hx hKc hK0
       simp only [frameOf, fill, setSlot, sg, Nat.reduceBEq, if_true, if_false, Nat.reduceAdd, Nat.reduceEqDiff, HSL.out] at hK ⊢
       go_wp2_with (fail)
       exact hK _ _ (Below.refl _ _) rfl
      ·intro xq wy hby hx K hK0
       have hK := fun v w' hb => hK0 v w' (.inl hb)
       have e93 : xq 93 = .int .i64 ga := hx 5 (by rfl) (by rfl)
       have e94 : xq 94 = .int .i64 t16 := hx 6 (by rfl) (by rfl)
       clear hx hKc hK0
       simp only [frameOf, fill, setSlot, sg, Nat.reduceBEq, if_true, if_false, Nat.reduceAdd, Nat.reduceEqDiff, HSL.out] at hK ⊢
       simp only [e93, e94] at hK ⊢
       clear e93 e94
       go_wp2_with (fail)
       exact hK _ _ (Below.refl _ _) rfl
      ·intro xq wy hby hx K hK0
       have hK := fun v w' hb => hK0 v w' (.inl hb)
       clear hx hKc hK0
       simp only [frameOf, fill, setSlot, sg, Nat.reduceBEq, if_true, if_false, Nat.reduceAdd, Nat.reduceEqDiff, HSL.out] at hK ⊢
       go_wp2_with (fail)
       exact hK _ _ (Below.refl _ _) rfl
      ·intro xq wy hby hx K hK0
       have hK := fun v w' hb => hK0 v w' (.inl hb)
       clear hx hKc hK0
       simp only [frameOf, fill, setSlot, sg, Nat.reduceBEq, if_true, if_false, Nat.reduceAdd, Nat.reduceEqDiff, HSL.out] at hK ⊢
       go_wp2_with (fail)
       exact hK _ _ (Below.refl _ _) rfl
      ·intro xq wy hby hx K hK0
       have hK := fun v w' hb => hK0 v w' (.inl hb)
       have e96 : xq 96 = .int .i64 (kb : Int) := hx 8 (by rfl) (by rfl)
       have e97 : xq 97 = .pointer (some ⟨w4.heap.size, 1, none⟩) := hx 9 (by rfl) (by rfl)
       clear hx hKc hK0
       simp only [frameOf, fill, setSlot, sg, Nat.reduceBEq, if_true, if_false, Nat.reduceAdd, Nat.reduceEqDiff, HSL.out] at hK ⊢
       simp only [e96, e97] at hK ⊢
       clear e96 e97
       go_wp2_with (fail)
       exact hK _ _ (Below.refl _ _) rfl
      ·intro xq wy hby hx K hK0
       have hK := fun v w' hb => hK0 v w' (.inl hb)
       have e98 : xq 98 = .pointer (some ⟨w4.heap.size, 1 + kb, none⟩) := hx 10 (by rfl) (by rfl)
       have fib_0 : Holds wy w4.heap.size 30 #[.int .i64 sp, .int .i64 G0, .int .i64 G1, .int .i64 G2, .int .i64 G3] := hx 20 (by rfl) (by rfl)
       clear hx hKc hK0
       have cb : wy.cell? ⟨w4.heap.size, 1 + kb, none⟩ = some (.int .i64 gb) := by rw [HGB.out]; exact hand_at fib_0 hkb
       simp only [frameOf, fill, setSlot, sg, Nat.reduceBEq, if_true, if_false, Nat.reduceAdd, Nat.reduceEqDiff, HSL.out] at hK ⊢
       simp only [e98] at hK ⊢
       clear e98
       go_wp2_with (fail)
       exact hK _ _ (Below.refl _ _) rfl
      ·intro xq wy hby hx K hK0
       have hK := fun v w' hb => hK0 v w' (.inl hb)
       clear hx hKc hK0
       simp only [frameOf, fill, setSlot, sg, Nat.reduceBEq, if_true, if_false, Nat.reduceAdd, Nat.reduceEqDiff, HSL.out] at hK ⊢
       go_wp2_with (fail)
       exact hK _ _ (Below.refl _ _) rfl
      ·intro xq wy hby hx K hK0
       have hK := fun v w' hb => hK0 v w' (.inl hb)
       have e99 : xq 99 = .int .i64 gb := hx 11 (by rfl) (by rfl)
       have e100 : xq 100 = .int .i64 t16 := hx 12 (by rfl) (by rfl)
       clear hx hKc hK0
       simp only [frameOf, fill, setSlot, sg, Nat.reduceBEq, if_true, if_false, Nat.reduceAdd, Nat.reduceEqDiff, HSL.out] at hK ⊢
       simp only [e99, e100] at hK ⊢
       clear e99 e100
       go_wp2_with (fail)
       exact hK _ _ (Below.refl _ _) rfl
      ·intro xq wy hby hx K hK0
       have hK := fun v w' hb => hK0 v w' (.inl hb)
       clear hx hKc hK0
       simp only [frameOf, fill, setSlot, sg, Nat.reduceBEq, if_true, if_false, Nat.reduceAdd, Nat.reduceEqDiff, HSL.out] at hK ⊢
       go_wp2_with (fail)
       exact hK _ _ (Below.refl _ _) rfl
      ·intro xq wy hby hx K hK0
       have hK := fun v w' hb => hK0 v w' (.inl hb)
       have e88 : xq 88 = .int .i64 (ka : Int) := hx 0 (by rfl) (by rfl)
       have e102 : xq 102 = .pointer (some ⟨w4.heap.size, 1, none⟩) := hx 14 (by rfl) (by rfl)
       clear hx hKc hK0
       simp only [frameOf, fill, setSlot, sg, Nat.reduceBEq, if_true, if_false, Nat.reduceAdd, Nat.reduceEqDiff, HSL.out] at hK ⊢
       simp only [e88, e102] at hK ⊢
       clear e88 e102
       go_wp2_with (fail)
       exact hK _ _ (Below.refl _ _) rfl
      ·intro xq wy hby hx K hK0
       have hK := fun v w' hb => hK0 v w' (.inr hb)
       have e95 : xq 95 = .int .i64 (ga - t16) := hx 7 (by rfl) (by rfl)
       have e103 : xq 103 = .pointer (some ⟨w4.heap.size, 1 + ka, none⟩) := hx 15 (by rfl) (by rfl)
       have fib_0 : Holds wy w4.heap.size 30 #[.int .i64 sp, .int .i64 G0, .int .i64 G1, .int .i64 G2, .int .i64 G3] := hx 20 (by rfl) (by rfl)
       clear hx hKc hK0
       have ca : wy.cell? ⟨w4.heap.size, 1 + ka, none⟩ = some (.int .i64 ga) := by rw [HGA.out]; exact hand_at fib_0 hka
       have za : wy.frozen? ⟨w4.heap.size, 1 + ka, none⟩ = false := fib_0.frozen _
       simp only [frameOf, fill, setSlot, sg, Nat.reduceBEq, if_true, if_false, Nat.reduceAdd, Nat.reduceEqDiff, HSL.out] at hK ⊢
       have E95 := Lib.hid e95
       have E103 := Lib.hid e103
       simp only [e95, e103] at hK ⊢
       clear e95 e103
       go_wp2_with (fail)
       refine hK undef _ ⟨zg, ?_⟩ (Holds.putL (l := [.int .i64 sp, .int .i64 G0, .int .i64 G1, .int .i64 G2, .int .i64 G3]) fib_0 rfl)
       intro jq xq hd hne hv
       match jq, hd, hne, hv with
       | 0, _, _, hv => exact hv
       | 1, _, _, hv => exact hv
       | 2, _, _, hv => exact hv
       | 3, _, _, hv => exact hv
       | 4, _, _, hv => exact hv
       | 5, _, _, hv => exact hv
       | 6, _, _, hv => exact hv
       | 7, _, _, hv => exact hv
       | 8, _, _, hv => exact hv
       | 9, _, _, hv => exact hv
       | 10, _, _, hv => exact hv
       | 11, _, _, hv => exact hv
       | 12, _, _, hv => exact hv
       | 13, _, _, hv => exact hv
       | 14, _, _, hv => exact hv
       | 15, _, _, hv => exact hv
       | 16, _, hne, _ => exact absurd rfl hne
       | 17, _, _, hv => exact hv
       | 18, _, _, hv => exact hv
       | 19, _, _, hv => exact set_again hv (by omega)
       | 20, hd, _, _ => exact absurd hd (by decide)
       | _ + 21, _, _, _ => trivial
      ·intro xq wy hby hx K hK0
       have hK := fun v w' hb => hK0 v w' (.inl hb)
       clear hx hKc hK0
       simp only [frameOf, fill, setSlot, sg, Nat.reduceBEq, if_true, if_false, Nat.reduceAdd, Nat.reduceEqDiff, HSL.out] at hK ⊢
       go_wp2_with (fail)
       exact hK _ _ (Below.refl _ _) rfl
      ·intro xq wy hby hx K hK0
       have hK := fun v w' hb => hK0 v w' (.inl hb)
       have e89 : xq 89 = .int .i64 (kb : Int) := hx 1 (by rfl) (by rfl)
       have fn16_0 : Holds wy w4.heap.size 30 (([.int .i64 sp, .int .i64 G0, .int .i64 G1, .int .i64 G2, .int .i64 G3] : List Value).set (1 + ka) (.int .i64 (ga - t16))).toArray := hx 16 (by rfl) (by rfl)
       have e104 : xq 104 = .pointer (some ⟨w4.heap.size, 1, none⟩) := hx 17 (by rfl) (by rfl)
       clear hx hKc hK0
       simp only [frameOf, fill, setSlot, sg, Nat.reduceBEq, if_true, if_false, Nat.reduceAdd, Nat.reduceEqDiff, HSL.out] at hK ⊢
       simp only [e89, e104] at hK ⊢
       clear e89 e104
       go_wp2_with (fail)
       exact hK _ _ (Below.refl _ _) rfl
      ·intro xq wy hby hx K hK0
       have hK := fun v w' hb => hK0 v w' (.inr hb)
       have e101 : xq 101 = .int .i64 (gb + t16) := hx 13 (by rfl) (by rfl)
       have fn16_0 : Holds wy w4.heap.size 30 (([.int .i64 sp, .int .i64 G0, .int .i64 G1, .int .i64 G2, .int .i64 G3] : List Value).set (1 + ka) (.int .i64 (ga - t16))).toArray := hx 16 (by rfl) (by rfl)
       have e105 : xq 105 = .pointer (some ⟨w4.heap.size, 1 + kb, none⟩) := hx 18 (by rfl) (by rfl)
       clear hx hKc hK0
       have cb : wy.cell? ⟨w4.heap.size, 1 + kb, none⟩ = some (.int .i64 gb) := by rw [HGB.out]; exact hand_set_at fn16_0 hkb hab
       have zb : wy.frozen? ⟨w4.heap.size, 1 + kb, none⟩ = false := fn16_0.frozen _
       simp only [frameOf, fill, setSlot, sg, Nat.reduceBEq, if_true, if_false, Nat.reduceAdd, Nat.reduceEqDiff, HSL.out] at hK ⊢
       have E101 := Lib.hid e101
       have E105 := Lib.hid e105
       simp only [e101, e105] at hK ⊢
       clear e101 e105
       go_wp2_with (fail)
       refine hK undef _ ⟨zg, ?_⟩ (Holds.putL fn16_0 rfl)
       intro jq xq hd hne hv
       match jq, hd, hne, hv with
       | 0, _, _, hv => exact hv
       | 1, _, _, hv => exact hv
       | 2, _, _, hv => exact hv
       | 3, _, _, hv => exact hv
       | 4, _, _, hv => exact hv
       | 5, _, _, hv => exact hv
       | 6, _, _, hv => exact hv
       | 7, _, _, hv => exact hv
       | 8, _, _, hv => exact hv
       | 9, _, _, hv => exact hv
       | 10, _, _, hv => exact hv
       | 11, _, _, hv => exact hv
       | 12, _, _, hv => exact hv
       | 13, _, _, hv => exact hv
       | 14, _, _, hv => exact hv
       | 15, _, _, hv => exact hv
       | 16, hd, _, _ => exact absurd hd (by decide)
       | 17, _, _, hv => exact hv
       | 18, _, _, hv => exact hv
       | 19, _, hne, _ => exact absurd rfl hne
       | 20, hd, _, _ => exact absurd hd (by decide)
       | _ + 21, _, _, _ => trivial
     ·intro xq wy hby hx
      have e88 : xq 88 = .int .i64 (ka : Int) := hx 0 (by decide)
      have e89 : xq 89 = .int .i64 (kb : Int) := hx 1 (by decide)
      have e90 : xq 90 = .int .i64 (ka : Int) := hx 2 (by decide)
      have e91 : xq 91 = .pointer (some ⟨w4.heap.size, 1, none⟩) := hx 3 (by decide)
      have e92 : xq 92 = .pointer (some ⟨w4.heap.size, 1 + ka, none⟩) := hx 4 (by decide)
      have e93 : xq 93 = .int .i64 ga := hx 5 (by decide)
      have e94 : xq 94 = .int .i64 t16 := hx 6 (by decide)
      have e95 : xq 95 = .int .i64 (ga - t16) := hx 7 (by decide)
      have e96 : xq 96 = .int .i64 (kb : Int) := hx 8 (by decide)
      have e97 : xq 97 = .pointer (some ⟨w4.heap.size, 1, none⟩) := hx 9 (by decide)
      have e98 : xq 98 = .pointer (some ⟨w4.heap.size, 1 + kb, none⟩) := hx 10 (by decide)
      have e99 : xq 99 = .int .i64 gb := hx 11 (by decide)
      have e100 : xq 100 = .int .i64 t16 := hx 12 (by decide)
      have e101 : xq 101 = .int .i64 (gb + t16) := hx 13 (by decide)
      have e102 : xq 102 = .pointer (some ⟨w4.heap.size, 1, none⟩) := hx 14 (by decide)
      have e103 : xq 103 = .pointer (some ⟨w4.heap.size, 1 + ka, none⟩) := hx 15 (by decide)
      have e104 : xq 104 = .pointer (some ⟨w4.heap.size, 1, none⟩) := hx 17 (by decide)
      have e105 : xq 105 = .pointer (some ⟨w4.heap.size, 1 + kb, none⟩) := hx 18 (by decide)
      have fn19_0 : Holds wy w4.heap.size 30 ((([.int .i64 sp, .int .i64 G0, .int .i64 G1, .int .i64 G2, .int .i64 G3] : List Value).set (1 + ka) (.int .i64 (ga - t16))).set (1 + kb) (.int .i64 (gb + t16))).toArray := hx 19 (by decide)
      clear hx
      simp only [frameOf, fill, setSlot, sg, Nat.reduceBEq, if_true, if_false, Nat.reduceAdd, Nat.reduceEqDiff, HSL.out]
      simp only [e88, e89, e90, e91, e92, e93, e94, e95, e96, e97, e98, e99, e100, e101, e102, e103, e104, e105]
      clear e88 e89 e90 e91 e92 e93 e94 e95 e96 e97 e98 e99 e100 e101 e102 e103 e104 e105
      refine hKc _ _ ?_
      obtain ⟨x0, x1, x2, x3, hset, hok⟩ := mixh_moved (s := sp) HK.out hn0 hn1 sp0 (by omega) i0 hka hkb hab f16_0 f16_1 (HGA.out ▸ f16_2)
      rw [← HGA.out, ← HGB.out] at hset
      rw [hset] at fn19_0
      have HOK := Lib.hid hok
      clear hset hok
      have Hbhz : Hid (Holds wy w4.heap.size 30 #[.int .i64 sp, .int .i64 x0, .int .i64 x1, .int .i64 x2, .int .i64 x3]) := Lib.hid fn19_0
      have Hbrz := Lib.hid (Hbrx.out.low hby (by omega))
      have hsz := hby.size
      obtain ⟨kbr0z, kbr1z, kbr2z, kbr3z, kbr4z⟩ := Hbrz.out.c5
      obtain ⟨zbr0z, zbr1z, zbr2z, zbr3z, zbr4z⟩ := Hbrz.out.f5
      have lbrz : w.heap.size + 1 + 1 < wy.heap.size := Hbrz.out.lt
      obtain ⟨kbh0z, kbh1z, kbh2z, kbh3z, kbh4z⟩ := Hbhz.out.c5
      have lbhz : w4.heap.size < wy.heap.size := Hbhz.out.lt
      go_wp2_with fail
      exact ret_cell rfl rfl ((by have h := Hbrz.out; exact (zp6 : Holds _ (w.heap.size + 1 + 1) 30 #[.int .i64 sp, .int .i64 x0, .int .i64 x1, .int .i64 x2, .int .i64 x3]))) Try.underlying30 rfl (by kernel_rfl) rfl ⟨⟨sp, x0, x1, x2, x3⟩, _, _, rfl, HOK.out, (by omega : (tk + 1 + 1) + 1 + 1 + 1 + 1 ≤ tk + 8), ((((((HSx.out.low hby (by omega)).far (by simp only [ne_eq]; omega) _).far (by simp only [ne_eq]; omega) _).far (by simp only [ne_eq]; omega) _).far (by simp only [ne_eq]; omega) _).far (by simp only [ne_eq]; omega) _), (grow_far (grow_far (grow_far (grow_far (grow_far (grow_low HGx.out hby (by omega)) (by show w.heap.size ≤ w.heap.size + 1 + 1; omega) _) (by show w.heap.size ≤ w.heap.size + 1 + 1; omega) _) (by show w.heap.size ≤ w.heap.size + 1 + 1; omega) _) (by show w.heap.size ≤ w.heap.size + 1 + 1; omega) _) (by show w.heap.size ≤ w.heap.size + 1 + 1; omega) _)⟩
end Go.Proofs.Ytdpgfaikmahmpaa
