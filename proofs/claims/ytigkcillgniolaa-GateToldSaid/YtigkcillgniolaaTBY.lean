import Derived.Deep.CutRange
import Derived.Test.YtigkcillgniolaaTAA
import Derived.Test.YtigkcillgniolaaTAC
import Derived.Test.YtigkcillgniolaaTBF
import Derived.Test.YtigkcillgniolaaTBW
import Derived.Test.YtigkcillgniolaaTBX
set_option linter.unusedSimpArgs false
set_option linter.unusedVariables false
namespace Go.Proofs.Ytigkcillgniolaa
open Go.RowKit
theorem mix_le0 {m0 m1 m2 m3 : Int} (h : Mix4 m0 m1 m2 m3) : m0 ≤ 40 := by obtain ⟨_, _, _, _, _⟩ := h; omega
theorem mix_le1 {m0 m1 m2 m3 : Int} (h : Mix4 m0 m1 m2 m3) : m1 ≤ 40 := by obtain ⟨_, _, _, _, _⟩ := h; omega
theorem mix_le2 {m0 m1 m2 m3 : Int} (h : Mix4 m0 m1 m2 m3) : m2 ≤ 40 := by obtain ⟨_, _, _, _, _⟩ := h; omega
theorem mix_le3 {m0 m1 m2 m3 : Int} (h : Mix4 m0 m1 m2 m3) : m3 ≤ 40 := by obtain ⟨_, _, _, _, _⟩ := h; omega
theorem holds_fit {err miss full emp r0 r1 r2 r3 m0 m1 m2 m3 : Int} {gs : List Gr} {hs : List Hf} (hok : MadeOk err miss full emp r0 r1 r2 r3 gs hs) (h : Mix4 m0 m1 m2 m3) : (boundsOf miss (fun _ => true) hs).holds m0 m1 m2 m3 = hs.all (fitH miss m0 m1 m2 m3) := by
 rw [Bool.eq_iff_iff, holds_has]
 exact ⟨fit_of hok h, fit_in hok h⟩
theorem has_gat {b : Bx} {m0 m1 m2 m3 : Int} (h : b.has m0 m1 m2 m3) (k : Nat) : bLo b k ≤ gat m0 m1 m2 m3 k ∧ gat m0 m1 m2 m3 k ≤ bHi b k := by
 unfold Bx.has at h
 match k with
 | 0 => show b.l0 ≤ m0 ∧ m0 ≤ b.h0; omega
 | 1 => show b.l1 ≤ m1 ∧ m1 ≤ b.h1; omega
 | 2 => show b.l2 ≤ m2 ∧ m2 ≤ b.h2; omega
 | _ + 3 => show b.l3 ≤ m3 ∧ m3 ≤ b.h3; omega
theorem ix_span (b : Bx) {k : Nat} (hk : k < 4) : ∀ w : World, (Instr.index 76 (.agg #[.int .i64 b.l0, .int .i64 b.h0, .int .i64 b.l1, .int .i64 b.h1, .int .i64 b.l2, .int .i64 b.h2, .int .i64 b.l3, .int .i64 b.h3]) (.int .i64 (k : Int))).run Try.prog w = .ok (.agg #[.int .i64 (bLo b k), .int .i64 (bHi b k)]) w := by
 intro w
 match k, hk with
 | 0, _ => show (Instr.index 76 (.agg #[.int .i64 b.l0, .int .i64 b.h0, .int .i64 b.l1, .int .i64 b.h1, .int .i64 b.l2, .int .i64 b.h2, .int .i64 b.l3, .int .i64 b.h3]) (.int .i64 0)).run Try.prog w = .ok (.agg #[.int .i64 b.l0, .int .i64 b.h0]) w; kernel_rfl
 | 1, _ => show (Instr.index 76 (.agg #[.int .i64 b.l0, .int .i64 b.h0, .int .i64 b.l1, .int .i64 b.h1, .int .i64 b.l2, .int .i64 b.h2, .int .i64 b.l3, .int .i64 b.h3]) (.int .i64 1)).run Try.prog w = .ok (.agg #[.int .i64 b.l1, .int .i64 b.h1]) w; kernel_rfl
 | 2, _ => show (Instr.index 76 (.agg #[.int .i64 b.l0, .int .i64 b.h0, .int .i64 b.l1, .int .i64 b.h1, .int .i64 b.l2, .int .i64 b.h2, .int .i64 b.l3, .int .i64 b.h3]) (.int .i64 2)).run Try.prog w = .ok (.agg #[.int .i64 b.l2, .int .i64 b.h2]) w; kernel_rfl
 | 3, _ => show (Instr.index 76 (.agg #[.int .i64 b.l0, .int .i64 b.h0, .int .i64 b.l1, .int .i64 b.h1, .int .i64 b.l2, .int .i64 b.h2, .int .i64 b.l3, .int .i64 b.h3]) (.int .i64 3)).run Try.prog w = .ok (.agg #[.int .i64 b.l3, .int .i64 b.h3]) w; kernel_rfl
theorem bk_bd {b : Bx} (o : b.ok) {k : Nat} (hk : k < 4) : 0 ≤ bLo b k ∧ bLo b k ≤ 40 ∧ 0 ≤ bHi b k ∧ bHi b k ≤ 40 := by
 have v0 := o.s0.bd
 have v1 := o.s1.bd
 have v2 := o.s2.bd
 have v3 := o.s3.bd
 match k, hk with
 | 0, _ => show 0 ≤ b.l0 ∧ b.l0 ≤ 40 ∧ 0 ≤ b.h0 ∧ b.h0 ≤ 40; omega
 | 1, _ => show 0 ≤ b.l1 ∧ b.l1 ≤ 40 ∧ 0 ≤ b.h1 ∧ b.h1 ≤ 40; omega
 | 2, _ => show 0 ≤ b.l2 ∧ b.l2 ≤ 40 ∧ 0 ≤ b.h2 ∧ b.h2 ≤ 40; omega
 | 3, _ => show 0 ≤ b.l3 ∧ b.l3 ≤ 40 ∧ 0 ≤ b.h3 ∧ b.h3 ≤ 40; omega
theorem bk_le {b : Bx} {m0 m1 m2 m3 : Int} (h : b.has m0 m1 m2 m3) {k : Nat} (hk : k < 4) : bLo b k ≤ bHi b k := by
 have := has_gat h k
 omega
theorem cell8_lo {w : World} {S : Nat} {b : Bx} (h : Holds w S 76 #[.int .i64 b.l0, .int .i64 b.h0, .int .i64 b.l1, .int .i64 b.h1, .int .i64 b.l2, .int .i64 b.h2, .int .i64 b.l3, .int .i64 b.h3]) {k : Nat} (hk : k < 4) : w.cell? ⟨S, k * 2, none⟩ = some (.int .i64 (bLo b k)) := by
 match k, hk with
 | 0, _ => exact h.cell 0
 | 1, _ => exact h.cell 2
 | 2, _ => exact h.cell 4
 | 3, _ => exact h.cell 6
theorem cell8_hi {w : World} {S : Nat} {b : Bx} (h : Holds w S 76 #[.int .i64 b.l0, .int .i64 b.h0, .int .i64 b.l1, .int .i64 b.h1, .int .i64 b.l2, .int .i64 b.h2, .int .i64 b.l3, .int .i64 b.h3]) {k : Nat} (hk : k < 4) : w.cell? ⟨S, k * 2 + 1, none⟩ = some (.int .i64 (bHi b k)) := by
 match k, hk with
 | 0, _ => exact h.cell 1
 | 1, _ => exact h.cell 3
 | 2, _ => exact h.cell 5
 | 3, _ => exact h.cell 7
def ToldRel (w12 : World) (S : Nat) (A : Option Addr) (n c : Nat) (v : Value) (wr : World) : Prop :=
 ∃ (i tk : Nat) (m : Int), v = .int .i64 (i : Int) ∧ i ≤ 12 ∧ tk ≤ 7 * i ∧ Holds wr S 172 #[.slice A n c, .int .i64 (tk : Int), .int .u32 m] ∧ w12.grownBy wr (some S)
set_option maxRecDepth 100000 in
set_option maxHeartbeats 16000000 in
theorem GateTold_any (a0 : Option Addr) (len0 cap0 : Nat) (z0 : List Int) (a1 : Option Addr) (len1 cap1 : Nat) (z1 : List Int) (a2 : Int) (w : World) (w0 : RowIn w a0 len0 cap0 z0) (w1_ : RowIn w a1 len1 cap1 z1) (w2_ : (Lit.int .u8 a2).wf = true) :
  Calls Try.prog 8 #[.slice a0 len0 cap0, .slice a1 len1 cap1, .int .u8 a2] w fun e w' => e = .returned (.bool true) ∧ Below w.heap.size w w' := by
 obtain ⟨hB0, hn⟩ := bytes_of w0
 obtain ⟨hB1, hn1⟩ := bytes_of w1_
 obtain ⟨a20, a21⟩ := u8_in w2_
 have HY0 := Lib.hid hB0
 have HY1 := Lib.hid hB1
 clear hB0 hB1 w0 w1_ w2_
 go_enter Try.func8, Try.ntmps8
 go_wp2_with fail
 refine (Fill_any a0 len0 cap0 _ hn).mono ?_
 rintro e w1 ⟨m, rfl, hS1, hb1⟩
 have HS1 := Lib.hid hS1
 have HB1 := Lib.hid hb1
 clear hS1 hb1
 go_wp2_with fail
 refine (Made_any w.heap.size a0 len0 cap0 0 m 4 5 (by decide) (by decide) (by decide) (by decide) w1 HS1.out (HY0.out.up HB1.out) hn (by decide)).mono ?_
 rintro e w2 ⟨err, miss, full, emp, m0, m1, m2, m3, gs, hs, G, H, d, q, tk1, mm, rfl, hok, hgl, hhl, hog, hoh, -, -, hg2⟩
 have hgl4 : gs.length ≤ 4 := by omega
 have hhl6 : hs.length ≤ 6 := by omega
 have HB2 := Lib.hid (HB1.out.grown hg2 (by have := HS1.out.lt; omega) (fun k hk => by cases hk; exact Nat.le_refl _))
 obtain ⟨_, _, e1, hgd, hG⟩ := hog.at_
 cases e1
 obtain ⟨_, _, e1, _, hH⟩ := hoh.at_
 cases e1
 have HG := Lib.hid hG
 have HH := Lib.hid hH
 have HOK := Lib.hid hok
 clear hok hog hoh hg2 hG hH HS1 HB1
 have hgl' : gs.length ≤ 1000 := by omega
 have hhl' : hs.length ≤ 1000 := by omega
 have HE := Lib.hid (HOK.out.both hgl4 hhl6)
 have HEG := Lib.hid (HOK.out.gate hgl4)
 have HEC := Lib.hid (HOK.out.cart hhl6)
 obtain ⟨e0, e1, i0, i1, y0_, y1_, f0, f1, _, _, _⟩ := HOK.out
 have i2 : miss ≤ 20 := by omega
 have hz2 := HB2.out.size
 have hx := bounds_nonempty HOK.out.mix.sum HOK.out.has
 have HX := Lib.hid hx
 have HTK : Hid (∀ x ∈ hs, x.taken = true) := Lib.hid (fun x hx => (HOK.out.taken x hx).taken)
 obtain ⟨B, hBx⟩ : ∃ z, boundsOf miss (fun _ => true) hs = z := ⟨_, rfl⟩
 have hBk : B.ok := hBx ▸ bounds_ok miss _ hs
 have hBt : B.Tight := hBx ▸ bounds_tight hx
 have hBm : B.has m0 m1 m2 m3 := hBx ▸ HOK.out.has
 obtain ⟨can, hcan⟩ : ∃ z, canOf B gs = z := ⟨_, rfl⟩
 have hcl : can.length ≤ 5 := by have := canOf_len B gs; rw [hcan] at this; omega
 obtain ⟨hy_, hyb⟩ := hBt.mix
 obtain ⟨y0, hy0⟩ : ∃ z, z = B.l0 + B.t0 := ⟨_, rfl⟩
 obtain ⟨y1, hy1⟩ : ∃ z, z = B.l1 + B.t1 := ⟨_, rfl⟩
 obtain ⟨y2, hy2⟩ : ∃ z, z = B.l2 + B.t2 := ⟨_, rfl⟩
 obtain ⟨y3, hy3⟩ : ∃ z, z = B.l3 + B.t3 := ⟨_, rfl⟩
 rw [← hy0, ← hy1, ← hy2, ← hy3] at hy_ hyb
 have hym : Mix4 y0 y1 y2 y3 := box_mix hBk hyb hy_
 have HBX := Lib.hid hBx
 have HBK := Lib.hid hBk
 have HBT := Lib.hid hBt
 have HBM := Lib.hid hBm
 have HCAN := Lib.hid hcan
 have HYM := Lib.hid hym
 have HYB := Lib.hid hyb
 have HE0 := Lib.hid hy0
 have HE1 := Lib.hid hy1
 have HE2 := Lib.hid hy2
 have HE3 := Lib.hid hy3
 clear hx hBx hBk hBt hBm hcan hy_ hyb hym hy0 hy1 hy2 hy3
 have HFR := Lib.hid (fit_real HOK.out)
 have HFY : Hid (hs.all (fitH miss y0 y1 y2 y3) = true) := Lib.hid (fit_of HOK.out HYM.out (by rw [HBX.out]; exact HYB.out))
 obtain ⟨ny, hny⟩ : ∃ z, z = hasN gs y0 y1 y2 y3 := ⟨_, rfl⟩
 have HNY := Lib.hid hny
 have HCY : Hid (can.contains ny = true) := Lib.hid (by rw [hny, ← HCAN.out]; exact List.contains_iff_mem.2 (has_in HBK.out HYM.out HYB.out))
 clear hny
 go_wp2_with fail
 refine (Fill_any a1 len1 cap1 _ hn1).mono ?_
 simp only [World.size_alloc]
 rintro e w3 ⟨sm, rfl, hS3, hb3⟩
 have Hs3 : Hid (Holds w3 (w2.heap.size + 1 + 1 + 1) 172 #[.slice a1 len1 cap1, .int .i64 ((0 : Nat) : Int), .int .u32 sm]) := Lib.hid hS3
 have Hg3 := Lib.hid (Holds.low (zp4 : Holds _ (w2.heap.size) 24 #[.int .i64 err, .int .i64 miss, .slice G gs.length d]) hb3 (by omega))
 have Hc3 := Lib.hid (Holds.low (zp4 : Holds _ (w2.heap.size + 1) 27 #[.int .i64 full, .int .i64 emp, .slice H hs.length q]) hb3 (by omega))
 have Hm3 := Lib.hid (Holds.low (zp4 : Holds _ (w2.heap.size + 1 + 1) 28 #[.int .i64 m0, .int .i64 m1, .int .i64 m2, .int .i64 m3]) hb3 (by omega))
 have HB3 : Hid (Below w2.heap.size w2 w3) := Lib.hid (Below.trans zg (hb3.mono (by omega)))
 have hsz3 := HB3.out.size
 have ls3 := hS3.lt
 clear hb3 hS3
 obtain ⟨kg0, kg1, kg2⟩ := Hg3.out.c3
 have lt_g : w2.heap.size < w3.heap.size := Hg3.out.lt
 obtain ⟨kc0, kc1, kc2⟩ := Hc3.out.c3
 have lt_c : w2.heap.size + 1 < w3.heap.size := Hc3.out.lt
 go_wp2_with fail
 refine (Bounds_ok err miss full emp G H d q gs hs _ (HG.out.up (HB3.out.trans zg)) hgl' (HH.out.up (HB3.out.trans zg)) hhl' HE.out HX.out).mono ?_
 rw [HBX.out]
 rintro e w4 ⟨rfl, hb4⟩
 have Hg4 := Lib.hid (Holds.up (by have h := Hg3.out; exact zp4 : Holds _ (w2.heap.size) 24 #[.int .i64 err, .int .i64 miss, .slice G gs.length d]) hb4)
 have Hc4 := Lib.hid (Holds.up (by have h := Hc3.out; exact zp4 : Holds _ (w2.heap.size + 1) 27 #[.int .i64 full, .int .i64 emp, .slice H hs.length q]) hb4)
 have Hm4 := Lib.hid (Holds.up (by have h := Hm3.out; exact zp4 : Holds _ (w2.heap.size + 1 + 1) 28 #[.int .i64 m0, .int .i64 m1, .int .i64 m2, .int .i64 m3]) hb4)
 have Hs4 := Lib.hid (Holds.up (by have h := Hs3.out; exact zp4 : Holds _ (w2.heap.size + 1 + 1 + 1) 172 #[.slice a1 len1 cap1, .int .i64 ((0 : Nat) : Int), .int .u32 sm]) hb4)
 have HB4 : Hid (Below w2.heap.size w2 w4) := Lib.hid (HB3.out.trans (Below.trans zg (hb4.mono (by first | exact Nat.le_refl _ | omega | (have := HB3.out.size; omega) | (have := HB3.out.size; simp; omega) | (simp; omega)))))
 have hsz4 := HB4.out.size
 have hs34 := hb4.size
 clear hb4
 clear kg0 kg1 kg2 lt_g kc0 kc1 kc2 lt_c
 obtain ⟨kg0, kg1, kg2⟩ := Hg4.out.c3
 have lt_g : w2.heap.size < w4.heap.size := Hg4.out.lt
 obtain ⟨kc0, kc1, kc2⟩ := Hc4.out.c3
 have lt_c : w2.heap.size + 1 < w4.heap.size := Hc4.out.lt
 go_wp2_with fail
 refine (Mixture_ok err miss full emp G H d q gs hs _ (HG.out.up (HB4.out.trans zg)) hgl' (HH.out.up (HB4.out.trans zg)) hhl' HE.out HX.out).mono ?_
 rw [HBX.out, ← HE0.out, ← HE1.out, ← HE2.out, ← HE3.out]
 rintro e w5 ⟨rfl, hb5⟩
 have Hg5 := Lib.hid (Holds.up (by have h := Hg4.out; exact zp4 : Holds _ (w2.heap.size) 24 #[.int .i64 err, .int .i64 miss, .slice G gs.length d]) hb5)
 have Hc5 := Lib.hid (Holds.up (by have h := Hc4.out; exact zp4 : Holds _ (w2.heap.size + 1) 27 #[.int .i64 full, .int .i64 emp, .slice H hs.length q]) hb5)
 have Hm5 := Lib.hid (Holds.up (by have h := Hm4.out; exact zp4 : Holds _ (w2.heap.size + 1 + 1) 28 #[.int .i64 m0, .int .i64 m1, .int .i64 m2, .int .i64 m3]) hb5)
 have Hs5 := Lib.hid (Holds.up (by have h := Hs4.out; exact zp4 : Holds _ (w2.heap.size + 1 + 1 + 1) 172 #[.slice a1 len1 cap1, .int .i64 ((0 : Nat) : Int), .int .u32 sm]) hb5)
 have Hb5 := Lib.hid (Holds.up (zp4 : Holds _ (w4.heap.size) 76 #[.int .i64 B.l0, .int .i64 B.h0, .int .i64 B.l1, .int .i64 B.h1, .int .i64 B.l2, .int .i64 B.h2, .int .i64 B.l3, .int .i64 B.h3]) hb5)
 have HB5 : Hid (Below w2.heap.size w2 w5) := Lib.hid (HB4.out.trans (Below.trans zg (hb5.mono (by first | exact Nat.le_refl _ | omega | (have := HB4.out.size; omega) | (have := HB4.out.size; simp; omega) | (simp; omega)))))
 have hsz5 := HB5.out.size
 have hs45 : w4.heap.size ≤ w5.heap.size := Nat.le_trans (by simp) hb5.size
 clear hb5
 clear kg0 kg1 kg2 lt_g kc0 kc1 kc2 lt_c
 obtain ⟨kg0, kg1, kg2⟩ := Hg5.out.c3
 have lt_g : w2.heap.size < w5.heap.size := Hg5.out.lt
 obtain ⟨kc0, kc1, kc2⟩ := Hc5.out.c3
 have lt_c : w2.heap.size + 1 < w5.heap.size := Hc5.out.lt
 go_wp2_with fail
 refine (Can_ok err miss full emp G H d q gs hs _ (HG.out.up (HB5.out.trans zg)) hgl' hgd (HH.out.up (HB5.out.trans zg)) hhl' HE.out HX.out).mono ?_
 rintro e w6 ⟨cv, rfl, hown, hb6⟩
 have Hg6 := Lib.hid (Holds.up (by have h := Hg5.out; exact zp4 : Holds _ (w2.heap.size) 24 #[.int .i64 err, .int .i64 miss, .slice G gs.length d]) hb6)
 have Hc6 := Lib.hid (Holds.up (by have h := Hc5.out; exact zp4 : Holds _ (w2.heap.size + 1) 27 #[.int .i64 full, .int .i64 emp, .slice H hs.length q]) hb6)
 have Hm6 := Lib.hid (Holds.up (by have h := Hm5.out; exact zp4 : Holds _ (w2.heap.size + 1 + 1) 28 #[.int .i64 m0, .int .i64 m1, .int .i64 m2, .int .i64 m3]) hb6)
 have Hs6 := Lib.hid (Holds.up (by have h := Hs5.out; exact zp4 : Holds _ (w2.heap.size + 1 + 1 + 1) 172 #[.slice a1 len1 cap1, .int .i64 ((0 : Nat) : Int), .int .u32 sm]) hb6)
 have Hb6 := Lib.hid (Holds.up (by have h := Hb5.out; exact zp4 : Holds _ (w4.heap.size) 76 #[.int .i64 B.l0, .int .i64 B.h0, .int .i64 B.l1, .int .i64 B.h1, .int .i64 B.l2, .int .i64 B.h2, .int .i64 B.l3, .int .i64 B.h3]) hb6)
 have Hx6 := Lib.hid (Holds.up (zp4 : Holds _ (w5.heap.size) 28 #[.int .i64 y0, .int .i64 y1, .int .i64 y2, .int .i64 y3]) hb6)
 have HB6 : Hid (Below w2.heap.size w2 w6) := Lib.hid (HB5.out.trans (Below.trans zg (hb6.mono (by first | exact Nat.le_refl _ | omega | (have := HB5.out.size; omega) | (have := HB5.out.size; simp; omega) | (simp; omega)))))
 have hsz6 := HB6.out.size
 clear hb6
 rw [HBX.out, HCAN.out] at hown
 obtain ⟨L, lc, rfl, hL⟩ := ints_of_row hown
 have HL6 := Lib.hid hL
 have HOW : Hid (OwnInts w6 w5.heap.size (.slice L can.length lc) can) := Lib.hid (hown.mono (by simp))
 clear hown hL
 clear kg0 kg1 kg2 lt_g kc0 kc1 kc2 lt_c
 obtain ⟨kg0, kg1, kg2⟩ := Hg6.out.c3
 have lt_g : w2.heap.size < w6.heap.size := Hg6.out.lt
 obtain ⟨kc0, kc1, kc2⟩ := Hc6.out.c3
 have lt_c : w2.heap.size + 1 < w6.heap.size := Hc6.out.lt
 obtain ⟨km0, km1, km2, km3⟩ := Hm6.out.c4
 have lt_m : w2.heap.size + 1 + 1 < w6.heap.size := Hm6.out.lt
 obtain ⟨kx0, kx1, kx2, kx3⟩ := Hx6.out.c4
 have lt_x : w5.heap.size < w6.heap.size := Hx6.out.lt
 go_wp2_with fail
 refine (Check_any err miss G d gs _ (HG.out.up (HB6.out.trans zg)) hgl').mono ?_
 rw [HEG.out]
 rintro e w7 ⟨rfl, hb7⟩
 have Hg7 := Lib.hid (Holds.up (by have h := Hg6.out; exact zp4 : Holds _ (w2.heap.size) 24 #[.int .i64 err, .int .i64 miss, .slice G gs.length d]) hb7)
 have Hc7 := Lib.hid (Holds.up (by have h := Hc6.out; exact zp4 : Holds _ (w2.heap.size + 1) 27 #[.int .i64 full, .int .i64 emp, .slice H hs.length q]) hb7)
 have Hm7 := Lib.hid (Holds.up (by have h := Hm6.out; exact zp4 : Holds _ (w2.heap.size + 1 + 1) 28 #[.int .i64 m0, .int .i64 m1, .int .i64 m2, .int .i64 m3]) hb7)
 have Hs7 := Lib.hid (Holds.up (by have h := Hs6.out; exact zp4 : Holds _ (w2.heap.size + 1 + 1 + 1) 172 #[.slice a1 len1 cap1, .int .i64 ((0 : Nat) : Int), .int .u32 sm]) hb7)
 have Hb7 := Lib.hid (Holds.up (by have h := Hb6.out; exact zp4 : Holds _ (w4.heap.size) 76 #[.int .i64 B.l0, .int .i64 B.h0, .int .i64 B.l1, .int .i64 B.h1, .int .i64 B.l2, .int .i64 B.h2, .int .i64 B.l3, .int .i64 B.h3]) hb7)
 have Hx7 := Lib.hid (Holds.up (by have h := Hx6.out; exact zp4 : Holds _ (w5.heap.size) 28 #[.int .i64 y0, .int .i64 y1, .int .i64 y2, .int .i64 y3]) hb7)
 have HB7 : Hid (Below w2.heap.size w2 w7) := Lib.hid (HB6.out.trans (Below.trans zg (hb7.mono (by first | exact Nat.le_refl _ | omega | (have := HB6.out.size; omega) | (have := HB6.out.size; simp; omega) | (simp; omega)))))
 have hsz7 := HB7.out.size
 have HC7 : Hid (Below w6.heap.size w6 w7) := Lib.hid (Below.trans zg (hb7.mono (by first | exact Nat.le_refl _ | omega | (simp; omega))))
 have hsc7 := HC7.out.size
 clear hb7
 clear kg0 kg1 kg2 lt_g kc0 kc1 kc2 lt_c km0 km1 km2 km3 lt_m kx0 kx1 kx2 kx3 lt_x
 obtain ⟨kg0, kg1, kg2⟩ := Hg7.out.c3
 have lt_g : w2.heap.size < w7.heap.size := Hg7.out.lt
 obtain ⟨kc0, kc1, kc2⟩ := Hc7.out.c3
 have lt_c : w2.heap.size + 1 < w7.heap.size := Hc7.out.lt
 obtain ⟨km0, km1, km2, km3⟩ := Hm7.out.c4
 have lt_m : w2.heap.size + 1 + 1 < w7.heap.size := Hm7.out.lt
 obtain ⟨kx0, kx1, kx2, kx3⟩ := Hx7.out.c4
 have lt_x : w5.heap.size < w7.heap.size := Hx7.out.lt
 go_wp2_with fail
 refine (CheckCart_any full emp H q hs _ (HH.out.up (HB7.out.trans zg)) hhl').mono ?_
 rw [HEC.out]
 rintro e w8 ⟨rfl, hb8⟩
 have Hg8 := Lib.hid (Holds.up (by have h := Hg7.out; exact zp4 : Holds _ (w2.heap.size) 24 #[.int .i64 err, .int .i64 miss, .slice G gs.length d]) hb8)
 have Hc8 := Lib.hid (Holds.up (by have h := Hc7.out; exact zp4 : Holds _ (w2.heap.size + 1) 27 #[.int .i64 full, .int .i64 emp, .slice H hs.length q]) hb8)
 have Hm8 := Lib.hid (Holds.up (by have h := Hm7.out; exact zp4 : Holds _ (w2.heap.size + 1 + 1) 28 #[.int .i64 m0, .int .i64 m1, .int .i64 m2, .int .i64 m3]) hb8)
 have Hs8 := Lib.hid (Holds.up (by have h := Hs7.out; exact zp4 : Holds _ (w2.heap.size + 1 + 1 + 1) 172 #[.slice a1 len1 cap1, .int .i64 ((0 : Nat) : Int), .int .u32 sm]) hb8)
 have Hb8 := Lib.hid (Holds.up (by have h := Hb7.out; exact zp4 : Holds _ (w4.heap.size) 76 #[.int .i64 B.l0, .int .i64 B.h0, .int .i64 B.l1, .int .i64 B.h1, .int .i64 B.l2, .int .i64 B.h2, .int .i64 B.l3, .int .i64 B.h3]) hb8)
 have Hx8 := Lib.hid (Holds.up (by have h := Hx7.out; exact zp4 : Holds _ (w5.heap.size) 28 #[.int .i64 y0, .int .i64 y1, .int .i64 y2, .int .i64 y3]) hb8)
 have HB8 : Hid (Below w2.heap.size w2 w8) := Lib.hid (HB7.out.trans (Below.trans zg (hb8.mono (by first | exact Nat.le_refl _ | omega | (have := HB7.out.size; omega) | (have := HB7.out.size; simp; omega) | (simp; omega)))))
 have hsz8 := HB8.out.size
 have HC8 : Hid (Below w6.heap.size w6 w8) := Lib.hid (HC7.out.trans (Below.trans zg (hb8.mono (by first | exact Nat.le_refl _ | omega | (simp; omega)))))
 have hsc8 := HC8.out.size
 clear hb8
 clear kg0 kg1 kg2 lt_g kc0 kc1 kc2 lt_c km0 km1 km2 km3 lt_m kx0 kx1 kx2 kx3 lt_x
 obtain ⟨kg0, kg1, kg2⟩ := Hg8.out.c3
 have lt_g : w2.heap.size < w8.heap.size := Hg8.out.lt
 obtain ⟨kc0, kc1, kc2⟩ := Hc8.out.c3
 have lt_c : w2.heap.size + 1 < w8.heap.size := Hc8.out.lt
 obtain ⟨km0, km1, km2, km3⟩ := Hm8.out.c4
 have lt_m : w2.heap.size + 1 + 1 < w8.heap.size := Hm8.out.lt
 obtain ⟨kx0, kx1, kx2, kx3⟩ := Hx8.out.c4
 have lt_x : w5.heap.size < w8.heap.size := Hx8.out.lt
 have HMX := Lib.hid HOK.out.mix
 go_wp2_with fail
 refine (fits_any err miss G gs.length d H q hs m0 m1 m2 m3 ⟨HMX.out.p0, mix_le0 HMX.out⟩ ⟨HMX.out.p1, mix_le1 HMX.out⟩ ⟨HMX.out.p2, mix_le2 HMX.out⟩ ⟨HMX.out.p3, mix_le3 HMX.out⟩ i0 i2 _ (HH.out.up (HB8.out.trans zg)) hhl' HTK.out).mono ?_
 rw [HFR.out]
 rintro e w9 ⟨rfl, hb9⟩
 have Hg9 := Lib.hid (Holds.up (by have h := Hg8.out; exact zp4 : Holds _ (w2.heap.size) 24 #[.int .i64 err, .int .i64 miss, .slice G gs.length d]) hb9)
 have Hc9 := Lib.hid (Holds.up (by have h := Hc8.out; exact zp4 : Holds _ (w2.heap.size + 1) 27 #[.int .i64 full, .int .i64 emp, .slice H hs.length q]) hb9)
 have Hm9 := Lib.hid (Holds.up (by have h := Hm8.out; exact zp4 : Holds _ (w2.heap.size + 1 + 1) 28 #[.int .i64 m0, .int .i64 m1, .int .i64 m2, .int .i64 m3]) hb9)
 have Hs9 := Lib.hid (Holds.up (by have h := Hs8.out; exact zp4 : Holds _ (w2.heap.size + 1 + 1 + 1) 172 #[.slice a1 len1 cap1, .int .i64 ((0 : Nat) : Int), .int .u32 sm]) hb9)
 have Hb9 := Lib.hid (Holds.up (by have h := Hb8.out; exact zp4 : Holds _ (w4.heap.size) 76 #[.int .i64 B.l0, .int .i64 B.h0, .int .i64 B.l1, .int .i64 B.h1, .int .i64 B.l2, .int .i64 B.h2, .int .i64 B.l3, .int .i64 B.h3]) hb9)
 have Hx9 := Lib.hid (Holds.up (by have h := Hx8.out; exact zp4 : Holds _ (w5.heap.size) 28 #[.int .i64 y0, .int .i64 y1, .int .i64 y2, .int .i64 y3]) hb9)
 have HB9 : Hid (Below w2.heap.size w2 w9) := Lib.hid (HB8.out.trans (Below.trans zg (hb9.mono (by first | exact Nat.le_refl _ | omega | (have := HB8.out.size; omega) | (have := HB8.out.size; simp; omega) | (simp; omega)))))
 have hsz9 := HB9.out.size
 have HC9 : Hid (Below w6.heap.size w6 w9) := Lib.hid (HC8.out.trans (Below.trans zg (hb9.mono (by first | exact Nat.le_refl _ | omega | (simp; omega)))))
 have hsc9 := HC9.out.size
 clear hb9
 clear kg0 kg1 kg2 lt_g kc0 kc1 kc2 lt_c km0 km1 km2 km3 lt_m kx0 kx1 kx2 kx3 lt_x
 obtain ⟨kg0, kg1, kg2⟩ := Hg9.out.c3
 have lt_g : w2.heap.size < w9.heap.size := Hg9.out.lt
 obtain ⟨kc0, kc1, kc2⟩ := Hc9.out.c3
 have lt_c : w2.heap.size + 1 < w9.heap.size := Hc9.out.lt
 obtain ⟨km0, km1, km2, km3⟩ := Hm9.out.c4
 have lt_m : w2.heap.size + 1 + 1 < w9.heap.size := Hm9.out.lt
 obtain ⟨kx0, kx1, kx2, kx3⟩ := Hx9.out.c4
 have lt_x : w5.heap.size < w9.heap.size := Hx9.out.lt
 go_wp2_with fail
 refine (right_any y0 y1 y2 y3 HYM.out _).mono ?_
 rintro e w10 ⟨rfl, hb10⟩
 have Hg10 := Lib.hid (Holds.up (by have h := Hg9.out; exact zp4 : Holds _ (w2.heap.size) 24 #[.int .i64 err, .int .i64 miss, .slice G gs.length d]) hb10)
 have Hc10 := Lib.hid (Holds.up (by have h := Hc9.out; exact zp4 : Holds _ (w2.heap.size + 1) 27 #[.int .i64 full, .int .i64 emp, .slice H hs.length q]) hb10)
 have Hm10 := Lib.hid (Holds.up (by have h := Hm9.out; exact zp4 : Holds _ (w2.heap.size + 1 + 1) 28 #[.int .i64 m0, .int .i64 m1, .int .i64 m2, .int .i64 m3]) hb10)
 have Hs10 := Lib.hid (Holds.up (by have h := Hs9.out; exact zp4 : Holds _ (w2.heap.size + 1 + 1 + 1) 172 #[.slice a1 len1 cap1, .int .i64 ((0 : Nat) : Int), .int .u32 sm]) hb10)
 have Hb10 := Lib.hid (Holds.up (by have h := Hb9.out; exact zp4 : Holds _ (w4.heap.size) 76 #[.int .i64 B.l0, .int .i64 B.h0, .int .i64 B.l1, .int .i64 B.h1, .int .i64 B.l2, .int .i64 B.h2, .int .i64 B.l3, .int .i64 B.h3]) hb10)
 have Hx10 := Lib.hid (Holds.up (by have h := Hx9.out; exact zp4 : Holds _ (w5.heap.size) 28 #[.int .i64 y0, .int .i64 y1, .int .i64 y2, .int .i64 y3]) hb10)
 have HB10 : Hid (Below w2.heap.size w2 w10) := Lib.hid (HB9.out.trans (Below.trans zg (hb10.mono (by first | exact Nat.le_refl _ | omega | (have := HB9.out.size; omega) | (have := HB9.out.size; simp; omega) | (simp; omega)))))
 have hsz10 := HB10.out.size
 have HC10 : Hid (Below w6.heap.size w6 w10) := Lib.hid (HC9.out.trans (Below.trans zg (hb10.mono (by first | exact Nat.le_refl _ | omega | (simp; omega)))))
 have hsc10 := HC10.out.size
 clear hb10
 clear kg0 kg1 kg2 lt_g kc0 kc1 kc2 lt_c km0 km1 km2 km3 lt_m kx0 kx1 kx2 kx3 lt_x
 obtain ⟨kg0, kg1, kg2⟩ := Hg10.out.c3
 have lt_g : w2.heap.size < w10.heap.size := Hg10.out.lt
 obtain ⟨kc0, kc1, kc2⟩ := Hc10.out.c3
 have lt_c : w2.heap.size + 1 < w10.heap.size := Hc10.out.lt
 obtain ⟨km0, km1, km2, km3⟩ := Hm10.out.c4
 have lt_m : w2.heap.size + 1 + 1 < w10.heap.size := Hm10.out.lt
 obtain ⟨kx0, kx1, kx2, kx3⟩ := Hx10.out.c4
 have lt_x : w5.heap.size < w10.heap.size := Hx10.out.lt
 go_wp2_with fail
 refine (fits_any err miss G gs.length d H q hs y0 y1 y2 y3 ⟨HYM.out.p0, mix_le0 HYM.out⟩ ⟨HYM.out.p1, mix_le1 HYM.out⟩ ⟨HYM.out.p2, mix_le2 HYM.out⟩ ⟨HYM.out.p3, mix_le3 HYM.out⟩ i0 i2 _ (HH.out.up (HB10.out.trans zg)) hhl' HTK.out).mono ?_
 rw [HFY.out]
 rintro e w11 ⟨rfl, hb11⟩
 have Hg11 := Lib.hid (Holds.up (by have h := Hg10.out; exact zp4 : Holds _ (w2.heap.size) 24 #[.int .i64 err, .int .i64 miss, .slice G gs.length d]) hb11)
 have Hc11 := Lib.hid (Holds.up (by have h := Hc10.out; exact zp4 : Holds _ (w2.heap.size + 1) 27 #[.int .i64 full, .int .i64 emp, .slice H hs.length q]) hb11)
 have Hm11 := Lib.hid (Holds.up (by have h := Hm10.out; exact zp4 : Holds _ (w2.heap.size + 1 + 1) 28 #[.int .i64 m0, .int .i64 m1, .int .i64 m2, .int .i64 m3]) hb11)
 have Hs11 := Lib.hid (Holds.up (by have h := Hs10.out; exact zp4 : Holds _ (w2.heap.size + 1 + 1 + 1) 172 #[.slice a1 len1 cap1, .int .i64 ((0 : Nat) : Int), .int .u32 sm]) hb11)
 have Hb11 := Lib.hid (Holds.up (by have h := Hb10.out; exact zp4 : Holds _ (w4.heap.size) 76 #[.int .i64 B.l0, .int .i64 B.h0, .int .i64 B.l1, .int .i64 B.h1, .int .i64 B.l2, .int .i64 B.h2, .int .i64 B.l3, .int .i64 B.h3]) hb11)
 have Hx11 := Lib.hid (Holds.up (by have h := Hx10.out; exact zp4 : Holds _ (w5.heap.size) 28 #[.int .i64 y0, .int .i64 y1, .int .i64 y2, .int .i64 y3]) hb11)
 have HB11 : Hid (Below w2.heap.size w2 w11) := Lib.hid (HB10.out.trans (Below.trans zg (hb11.mono (by first | exact Nat.le_refl _ | omega | (have := HB10.out.size; omega) | (have := HB10.out.size; simp; omega) | (simp; omega)))))
 have hsz11 := HB11.out.size
 have HC11 : Hid (Below w6.heap.size w6 w11) := Lib.hid (HC10.out.trans (Below.trans zg (hb11.mono (by first | exact Nat.le_refl _ | omega | (simp; omega)))))
 have hsc11 := HC11.out.size
 clear hb11
 clear kg0 kg1 kg2 lt_g kc0 kc1 kc2 lt_c km0 km1 km2 km3 lt_m kx0 kx1 kx2 kx3 lt_x
 obtain ⟨kg0, kg1, kg2⟩ := Hg11.out.c3
 have lt_g : w2.heap.size < w11.heap.size := Hg11.out.lt
 obtain ⟨kc0, kc1, kc2⟩ := Hc11.out.c3
 have lt_c : w2.heap.size + 1 < w11.heap.size := Hc11.out.lt
 obtain ⟨km0, km1, km2, km3⟩ := Hm11.out.c4
 have lt_m : w2.heap.size + 1 + 1 < w11.heap.size := Hm11.out.lt
 obtain ⟨kx0, kx1, kx2, kx3⟩ := Hx11.out.c4
 have lt_x : w5.heap.size < w11.heap.size := Hx11.out.lt
 go_wp2_with fail
 refine (has_any err miss G d gs y0 y1 y2 y3 _ (HG.out.up (HB11.out.trans zg)) hgl').mono ?_
 rw [← HNY.out]
 rintro e w12 ⟨rfl, hb12⟩
 have Hg12 := Lib.hid (Holds.up (by have h := Hg11.out; exact zp4 : Holds _ (w2.heap.size) 24 #[.int .i64 err, .int .i64 miss, .slice G gs.length d]) hb12)
 have Hc12 := Lib.hid (Holds.up (by have h := Hc11.out; exact zp4 : Holds _ (w2.heap.size + 1) 27 #[.int .i64 full, .int .i64 emp, .slice H hs.length q]) hb12)
 have Hm12 := Lib.hid (Holds.up (by have h := Hm11.out; exact zp4 : Holds _ (w2.heap.size + 1 + 1) 28 #[.int .i64 m0, .int .i64 m1, .int .i64 m2, .int .i64 m3]) hb12)
 have Hs12 := Lib.hid (Holds.up (by have h := Hs11.out; exact zp4 : Holds _ (w2.heap.size + 1 + 1 + 1) 172 #[.slice a1 len1 cap1, .int .i64 ((0 : Nat) : Int), .int .u32 sm]) hb12)
 have Hb12 := Lib.hid (Holds.up (by have h := Hb11.out; exact zp4 : Holds _ (w4.heap.size) 76 #[.int .i64 B.l0, .int .i64 B.h0, .int .i64 B.l1, .int .i64 B.h1, .int .i64 B.l2, .int .i64 B.h2, .int .i64 B.l3, .int .i64 B.h3]) hb12)
 have Hx12 := Lib.hid (Holds.up (by have h := Hx11.out; exact zp4 : Holds _ (w5.heap.size) 28 #[.int .i64 y0, .int .i64 y1, .int .i64 y2, .int .i64 y3]) hb12)
 have HB12 : Hid (Below w2.heap.size w2 w12) := Lib.hid (HB11.out.trans (Below.trans zg (hb12.mono (by first | exact Nat.le_refl _ | omega | (have := HB11.out.size; omega) | (have := HB11.out.size; simp; omega) | (simp; omega)))))
 have hsz12 := HB12.out.size
 have HC12 : Hid (Below w6.heap.size w6 w12) := Lib.hid (HC11.out.trans (Below.trans zg (hb12.mono (by first | exact Nat.le_refl _ | omega | (simp; omega)))))
 have hsc12 := HC12.out.size
 clear hb12
 clear kg0 kg1 kg2 lt_g kc0 kc1 kc2 lt_c km0 km1 km2 km3 lt_m kx0 kx1 kx2 kx3 lt_x
 obtain ⟨kg0, kg1, kg2⟩ := Hg12.out.c3
 have lt_g : w2.heap.size < w12.heap.size := Hg12.out.lt
 obtain ⟨kc0, kc1, kc2⟩ := Hc12.out.c3
 have lt_c : w2.heap.size + 1 < w12.heap.size := Hc12.out.lt
 obtain ⟨km0, km1, km2, km3⟩ := Hm12.out.c4
 have lt_m : w2.heap.size + 1 + 1 < w12.heap.size := Hm12.out.lt
 go_wp2_with fail
 refine (Contains_any L lc can ny _ (HL6.out.up (HC12.out.trans zg)) (by omega)).mono ?_
 rw [HCY.out]
 rintro e wv ⟨rfl, rfl⟩
 have HY12 := Lib.hid (HY1.out.up (HB2.out.trans (HB12.out.mono hz2)))
 clear kg0 kg1 kg2 lt_g kc0 kc1 kc2 lt_c km0 km1 km2 km3 lt_m
 go_wp2_with fail
 go_loopw [106] (fun v106 wr => ToldRel w12 (w2.heap.size + 1 + 1 + 1) a1 len1 cap1 v106 wr) (fun v106 _ => 12 - (intOf v106).toNat)
 case atStart => exact ⟨0, 0, sm, rfl, by decide, by decide, Hs12.out, grow_refl _ _⟩
 case round =>
  obtain ⟨i, tk, sm2, rfl, hi12, htk, hSr, hGr⟩ := hrel
  have HSr := Lib.hid hSr
  have HGr := Lib.hid hGr
  have hszr := hGr.size
  clear hSr hGr
  have ls12 := Hs12.out.lt
  have Hgr := Lib.hid (Hg12.out.grown HGr.out (by omega))
  have Hcr := Lib.hid (Hc12.out.grown HGr.out (by omega))
  have Hmr := Lib.hid (Hm12.out.grown HGr.out (by omega))
  have Hbr := Lib.hid (Hb12.out.grown HGr.out (by omega))
  obtain ⟨kg0, kg1, kg2⟩ := Hgr.out.c3
  have lt_g : w2.heap.size < wr.heap.size := Hgr.out.lt
  obtain ⟨kc0, kc1, kc2⟩ := Hcr.out.c3
  have lt_c : w2.heap.size + 1 < wr.heap.size := Hcr.out.lt
  obtain ⟨km0, km1, km2, km3⟩ := Hmr.out.c4
  have lt_m : w2.heap.size + 1 + 1 < wr.heap.size := Hmr.out.lt
  by_cases hlt : i < 12
  ·go_wp2_with fail
   refine (near_any (w2.heap.size + 1 + 1 + 1) a1 len1 cap1 tk sm2 m0 m1 m2 m3 HMX.out _ HSr.out (HY12.out.grown Hs12.out HGr.out) hn1 (by omega)).mono ?_
   rintro e wq ⟨x0, x1, x2, x3, tkq, smq, rfl, hxq, htq, hsq, hgq⟩
   have HGq := Lib.hid (HGr.out.trans hgq)
   have Hgq := Lib.hid (Hgr.out.grown hgq (by omega))
   have Hcq := Lib.hid (Hcr.out.grown hgq (by omega))
   have Hmq := Lib.hid (Hmr.out.grown hgq (by omega))
   have Hbq := Lib.hid (Hbr.out.grown hgq (by omega))
   clear kg0 kg1 kg2 lt_g kc0 kc1 kc2 lt_c km0 km1 km2 km3 lt_m hgq
   have hszq := HGq.out.size
   obtain ⟨km0, km1, km2, km3⟩ := Hmq.out.c4
   have lt_m : w2.heap.size + 1 + 1 < wq.heap.size := Hmq.out.lt
   go_upto_if 113 with fail
   go_cut [] from 114 to 114 (fun wx => ∃ t0 t1 t2 t3 : Int, Mix4 t0 t1 t2 t3 ∧ Below wq.heap.size wq wx ∧ Holds wx wq.heap.size 28 #[.int .i64 t0, .int .i64 t1, .int .i64 t2, .int .i64 t3])
   case first =>
    by_cases hi0 : i = 0
    ·subst hi0
     go_wp2_with fail
     go_meet
     exact ⟨m0, m1, m2, m3, HMX.out, zg, zp4⟩
    ·have hne : ((i : Int) == 0) = false := beq_eq_false_iff_ne.2 (by omega)
     go_wp2_with fail
     go_meet
     exact ⟨x0, x1, x2, x3, hxq, zg, zp4⟩
   case rest =>
    obtain ⟨t0, t1, t2, t3, htx, hbx, htt⟩ := hcut
    have HXX := Lib.hid htx
    have Htc := Lib.hid htt
    have HSc := Lib.hid (hsq.up hbx)
    have HGc := Lib.hid (only_up HGq.out hbx)
    have Hgc := Lib.hid (Hgq.out.up hbx)
    have Hcc := Lib.hid (Hcq.out.up hbx)
    have Hmc := Lib.hid (Hmq.out.up hbx)
    have Hbc := Lib.hid (Hbq.out.up hbx)
    clear htx htt hsq hbx hxq km0 km1 km2 km3 lt_m
    have hszc := HGc.out.size
    have HBc : Hid (Below w2.heap.size w2 wc) := Lib.hid (HB12.out.grown HGc.out (by omega) (fun k hk => by cases hk; omega))
    have hszc2 := HBc.out.size
    have HC6c : Hid (IntsAt wc L can) := Lib.hid (ints_at ((HOW.out.up HC12.out).grown HGc.out (by omega)))
    obtain ⟨kg0, kg1, kg2⟩ := Hgc.out.c3
    have lt_g : w2.heap.size < wc.heap.size := Hgc.out.lt
    obtain ⟨kc0, kc1, kc2⟩ := Hcc.out.c3
    have lt_c : w2.heap.size + 1 < wc.heap.size := Hcc.out.lt
    obtain ⟨kt0, kt1, kt2, kt3⟩ := Htc.out.c4
    have lt_t : wq.heap.size < wc.heap.size := Htc.out.lt
    cases hft : hs.all (fitH miss t0 t1 t2 t3) with
    | true =>
     obtain ⟨nt, hnt⟩ : ∃ z, z = hasN gs t0 t1 t2 t3 := ⟨_, rfl⟩
     have HNT := Lib.hid hnt
     have HFT := Lib.hid hft
     have HHT : Hid (B.holds t0 t1 t2 t3 = true) := Lib.hid (by rw [← HBX.out, holds_fit HOK.out HXX.out]; exact hft)
     have HCT : Hid (can.contains nt = true) := Lib.hid (by rw [hnt, ← HCAN.out]; exact List.contains_iff_mem.2 (has_in HBK.out HXX.out (holds_has.1 HHT.out)))
     have HBT_ : Hid (B.has t0 t1 t2 t3) := Lib.hid (holds_has.1 HHT.out)
     clear hnt hft
     go_wp2_with fail
     refine (Fits_ok err miss full emp G H d q gs hs _ (HG.out.up (HBc.out.trans zg)) hgl' (HH.out.up (HBc.out.trans zg)) hhl' HE.out t0 t1 t2 t3 HXX.out).mono ?_
     rw [HBX.out, HHT.out]
     rintro e w20 ⟨rfl, hb20⟩
     have Hg20 := Lib.hid (Holds.up (by have h := Hgc.out; exact zp4 : Holds _ (w2.heap.size) 24 #[.int .i64 err, .int .i64 miss, .slice G gs.length d]) hb20)
     have Hc20 := Lib.hid (Holds.up (by have h := Hcc.out; exact zp4 : Holds _ (w2.heap.size + 1) 27 #[.int .i64 full, .int .i64 emp, .slice H hs.length q]) hb20)
     have Hb20 := Lib.hid (Holds.up (by have h := Hbc.out; exact zp4 : Holds _ (w4.heap.size) 76 #[.int .i64 B.l0, .int .i64 B.h0, .int .i64 B.l1, .int .i64 B.h1, .int .i64 B.l2, .int .i64 B.h2, .int .i64 B.l3, .int .i64 B.h3]) hb20)
     have Ht20 := Lib.hid (Holds.up (by have h := Htc.out; exact zp4 : Holds _ (wq.heap.size) 28 #[.int .i64 t0, .int .i64 t1, .int .i64 t2, .int .i64 t3]) hb20)
     have HD20 : Hid (Below wc.heap.size wc w20) := Lib.hid (Below.trans zg (hb20.mono (by first | exact Nat.le_refl _ | omega | (simp; done) | (simp; omega))))
     have hsd20 := HD20.out.size
     clear hb20
     clear kg0 kg1 kg2 lt_g kc0 kc1 kc2 lt_c kt0 kt1 kt2 kt3 lt_t
     obtain ⟨kg0, kg1, kg2⟩ := Hg20.out.c3
     have lt_g : w2.heap.size < w20.heap.size := Hg20.out.lt
     obtain ⟨kc0, kc1, kc2⟩ := Hc20.out.c3
     have lt_c : w2.heap.size + 1 < w20.heap.size := Hc20.out.lt
     obtain ⟨kt0, kt1, kt2, kt3⟩ := Ht20.out.c4
     have lt_t : wq.heap.size < w20.heap.size := Ht20.out.lt
     go_wp2_with fail
     refine (Has_ok err miss G d gs _ (HG.out.up (HBc.out.trans ((HD20.out.mono hszc2).trans zg))) hgl' HEG.out t0 t1 t2 t3 HXX.out).mono ?_
     rw [← HNT.out]
     rintro e w21 ⟨rfl, hb21⟩
     have Hg21 := Lib.hid (Holds.up (by have h := Hg20.out; exact zp4 : Holds _ (w2.heap.size) 24 #[.int .i64 err, .int .i64 miss, .slice G gs.length d]) hb21)
     have Hc21 := Lib.hid (Holds.up (by have h := Hc20.out; exact zp4 : Holds _ (w2.heap.size + 1) 27 #[.int .i64 full, .int .i64 emp, .slice H hs.length q]) hb21)
     have Hb21 := Lib.hid (Holds.up (by have h := Hb20.out; exact zp4 : Holds _ (w4.heap.size) 76 #[.int .i64 B.l0, .int .i64 B.h0, .int .i64 B.l1, .int .i64 B.h1, .int .i64 B.l2, .int .i64 B.h2, .int .i64 B.l3, .int .i64 B.h3]) hb21)
     have Ht21 := Lib.hid (Holds.up (by have h := Ht20.out; exact zp4 : Holds _ (wq.heap.size) 28 #[.int .i64 t0, .int .i64 t1, .int .i64 t2, .int .i64 t3]) hb21)
     have HD21 : Hid (Below wc.heap.size wc w21) := Lib.hid (HD20.out.trans (Below.trans zg (hb21.mono (by first | exact Nat.le_refl _ | omega | (simp; done) | (simp; omega)))))
     have hsd21 := HD21.out.size
     clear hb21
     clear kg0 kg1 kg2 lt_g kc0 kc1 kc2 lt_c kt0 kt1 kt2 kt3 lt_t
     obtain ⟨kg0, kg1, kg2⟩ := Hg21.out.c3
     have lt_g : w2.heap.size < w21.heap.size := Hg21.out.lt
     obtain ⟨kc0, kc1, kc2⟩ := Hc21.out.c3
     have lt_c : w2.heap.size + 1 < w21.heap.size := Hc21.out.lt
     obtain ⟨kt0, kt1, kt2, kt3⟩ := Ht21.out.c4
     have lt_t : wq.heap.size < w21.heap.size := Ht21.out.lt
     go_wp2_with fail
     refine (fits_any err miss G gs.length d H q hs t0 t1 t2 t3 ⟨HXX.out.p0, mix_le0 HXX.out⟩ ⟨HXX.out.p1, mix_le1 HXX.out⟩ ⟨HXX.out.p2, mix_le2 HXX.out⟩ ⟨HXX.out.p3, mix_le3 HXX.out⟩ i0 i2 _ (HH.out.up (HBc.out.trans ((HD21.out.mono hszc2).trans zg))) hhl' HTK.out).mono ?_
     rw [HFT.out]
     rintro e w22 ⟨rfl, hb22⟩
     have Hg22 := Lib.hid (Holds.up (by have h := Hg21.out; exact zp4 : Holds _ (w2.heap.size) 24 #[.int .i64 err, .int .i64 miss, .slice G gs.length d]) hb22)
     have Hc22 := Lib.hid (Holds.up (by have h := Hc21.out; exact zp4 : Holds _ (w2.heap.size + 1) 27 #[.int .i64 full, .int .i64 emp, .slice H hs.length q]) hb22)
     have Hb22 := Lib.hid (Holds.up (by have h := Hb21.out; exact zp4 : Holds _ (w4.heap.size) 76 #[.int .i64 B.l0, .int .i64 B.h0, .int .i64 B.l1, .int .i64 B.h1, .int .i64 B.l2, .int .i64 B.h2, .int .i64 B.l3, .int .i64 B.h3]) hb22)
     have Ht22 := Lib.hid (Holds.up (by have h := Ht21.out; exact zp4 : Holds _ (wq.heap.size) 28 #[.int .i64 t0, .int .i64 t1, .int .i64 t2, .int .i64 t3]) hb22)
     have HD22 : Hid (Below wc.heap.size wc w22) := Lib.hid (HD21.out.trans (Below.trans zg (hb22.mono (by first | exact Nat.le_refl _ | omega | (simp; done) | (simp; omega)))))
     have hsd22 := HD22.out.size
     clear hb22
     clear kg0 kg1 kg2 lt_g kc0 kc1 kc2 lt_c kt0 kt1 kt2 kt3 lt_t
     obtain ⟨kg0, kg1, kg2⟩ := Hg22.out.c3
     have lt_g : w2.heap.size < w22.heap.size := Hg22.out.lt
     obtain ⟨kc0, kc1, kc2⟩ := Hc22.out.c3
     have lt_c : w2.heap.size + 1 < w22.heap.size := Hc22.out.lt
     obtain ⟨kt0, kt1, kt2, kt3⟩ := Ht22.out.c4
     have lt_t : wq.heap.size < w22.heap.size := Ht22.out.lt
     go_wp2_with fail
     refine (has_any err miss G d gs t0 t1 t2 t3 _ (HG.out.up (HBc.out.trans ((HD22.out.mono hszc2).trans zg))) hgl').mono ?_
     rw [← HNT.out]
     rintro e w23 ⟨rfl, hb23⟩
     have Hg23 := Lib.hid (Holds.up (by have h := Hg22.out; exact zp4 : Holds _ (w2.heap.size) 24 #[.int .i64 err, .int .i64 miss, .slice G gs.length d]) hb23)
     have Hc23 := Lib.hid (Holds.up (by have h := Hc22.out; exact zp4 : Holds _ (w2.heap.size + 1) 27 #[.int .i64 full, .int .i64 emp, .slice H hs.length q]) hb23)
     have Hb23 := Lib.hid (Holds.up (by have h := Hb22.out; exact zp4 : Holds _ (w4.heap.size) 76 #[.int .i64 B.l0, .int .i64 B.h0, .int .i64 B.l1, .int .i64 B.h1, .int .i64 B.l2, .int .i64 B.h2, .int .i64 B.l3, .int .i64 B.h3]) hb23)
     have Ht23 := Lib.hid (Holds.up (by have h := Ht22.out; exact zp4 : Holds _ (wq.heap.size) 28 #[.int .i64 t0, .int .i64 t1, .int .i64 t2, .int .i64 t3]) hb23)
     have HD23 : Hid (Below wc.heap.size wc w23) := Lib.hid (HD22.out.trans (Below.trans zg (hb23.mono (by first | exact Nat.le_refl _ | omega | (simp; done) | (simp; omega)))))
     have hsd23 := HD23.out.size
     clear hb23
     clear kg0 kg1 kg2 lt_g kc0 kc1 kc2 lt_c kt0 kt1 kt2 kt3 lt_t
     obtain ⟨kb0, kb1, kb2, kb3, kb4, kb5, kb6, kb7⟩ := Hb23.out.c8
     have lt_b : w4.heap.size < w23.heap.size := Hb23.out.lt
     go_wp2_with fail
     refine (Contains_any L lc can nt _ (HC6c.out.up HD23.out) (by omega)).mono ?_
     rw [HCT.out]
     rintro e wv ⟨rfl, rfl⟩
     go_wp2_with fail
     go_loopw [160] (fun v160 wr => ∃ j : Nat, v160 = .int .i64 (j : Int) ∧ j ≤ 4 ∧ Below w23.heap.size w23 wr) (fun v160 _ => 4 - (intOf v160).toNat)
     case atStart => exact ⟨0, rfl, by decide, Below.refl _ _⟩
     case round =>
      obtain ⟨j, rfl, hj4, hl⟩ := hrel
      have HLL := Lib.hid hl
      have hszl := hl.size
      clear hl kb0 kb1 kb2 kb3 kb4 kb5 kb6 kb7 lt_b
      have Htl := Lib.hid (Ht23.out.up HLL.out)
      have lt_t := Htl.out.lt
      by_cases hj : j < 4
      ·have hji : (j : Int) < 4 := by omega
       obtain ⟨lj, hlj⟩ : ∃ z, z = bLo B j := ⟨_, rfl⟩
       obtain ⟨uj, huj⟩ : ∃ z, z = bHi B j := ⟨_, rfl⟩
       obtain ⟨tj, htj⟩ : ∃ z, z = gat t0 t1 t2 t3 j := ⟨_, rfl⟩
       have ix : ∀ w : World, (Instr.index 76 (.agg #[.int .i64 B.l0, .int .i64 B.h0, .int .i64 B.l1, .int .i64 B.h1, .int .i64 B.l2, .int .i64 B.h2, .int .i64 B.l3, .int .i64 B.h3]) (.int .i64 (j : Int))).run Try.prog w = .ok (.agg #[.int .i64 lj, .int .i64 uj]) w := by rw [hlj, huj]; exact ix_span B hj
       obtain ⟨hlt_, hut_⟩ : lj ≤ tj ∧ tj ≤ uj := by rw [hlj, huj, htj]; exact has_gat HBT_.out j
       have HTJ := Lib.hid htj
       clear hlj huj htj
       go_wp2_with fail
       rename_i Kc hKc
       have HRL := Lib.hid (show List.range' 164 17 = [164, 165, 166, 167, 168, 169, 170, 171, 172, 173, 174, 175, 176, 177, 178, 179, 180] from rfl)
       refine wp_region_partsR 164 17 (by kernel_rfl) [some 164, some 165, some 166, some 167, some 168, some 169, some 170, some 171, some 172, some 173, some 174, some 175, some 176, some 177, some 178, some 179, some 180] (fun jq xq w' => match jq with
        | 0 => xq 164 = .bool true
        | 1 => xq 165 = .bool true
        | 2 => xq 166 = .int .i64 (j : Int)
        | 3 => xq 167 = .pointer (some ⟨wq.heap.size, j, none⟩)
        | 4 => xq 168 = .int .i64 tj
        | 5 => xq 169 = .pointer (some ⟨wr.heap.size, 0, none⟩)
        | 6 => xq 170 = .int .i64 lj
        | 7 => xq 171 = .bool false
        | 8 => xq 172 = .bool false
        | 9 => xq 173 = .int .i64 (j : Int)
        | 10 => xq 174 = .pointer (some ⟨wq.heap.size, j, none⟩)
        | 11 => xq 175 = .int .i64 tj
        | 12 => xq 176 = .pointer (some ⟨wr.heap.size, 1, none⟩)
        | 13 => xq 177 = .int .i64 uj
        | 14 => xq 178 = .bool false
        | 15 => xq 179 = .bool false
        | 16 => xq 180 = .bool false
        | _ => True) [[164], [165], [166], [167], [168], [169], [170], [171], [172], [173], [174], [175], [176], [177], [178], [179], [180]] [] (fun w' => Below wr.heap.size wr w' ∧ Holds w' wr.heap.size 60 #[.int .i64 lj, .int .i64 uj]) (by kernel_rfl) (by kernel_rfl) (by rfl) ?_ ?_ (fun w' w'' hb h => ⟨h.1.trans (hb.mono h.1.size), h.2.up hb⟩) (⟨zg, Holds.new _ _ _⟩) ?_ ?_ ?_
       ·intro jq xq xq' wqq h hv
        match jq, h, hv with
        | 0, h, hv => show xq' 164 = .bool true; rw [← h 164 (by decide)]; exact hv
        | 1, h, hv => show xq' 165 = .bool true; rw [← h 165 (by decide)]; exact hv
        | 2, h, hv => show xq' 166 = .int .i64 (j : Int); rw [← h 166 (by decide)]; exact hv
        | 3, h, hv => show xq' 167 = .pointer (some ⟨wq.heap.size, j, none⟩); rw [← h 167 (by decide)]; exact hv
        | 4, h, hv => show xq' 168 = .int .i64 tj; rw [← h 168 (by decide)]; exact hv
        | 5, h, hv => show xq' 169 = .pointer (some ⟨wr.heap.size, 0, none⟩); rw [← h 169 (by decide)]; exact hv
        | 6, h, hv => show xq' 170 = .int .i64 lj; rw [← h 170 (by decide)]; exact hv
        | 7, h, hv => show xq' 171 = .bool false; rw [← h 171 (by decide)]; exact hv
        | 8, h, hv => show xq' 172 = .bool false; rw [← h 172 (by decide)]; exact hv
        | 9, h, hv => show xq' 173 = .int .i64 (j : Int); rw [← h 173 (by decide)]; exact hv
        | 10, h, hv => show xq' 174 = .pointer (some ⟨wq.heap.size, j, none⟩); rw [← h 174 (by decide)]; exact hv
        | 11, h, hv => show xq' 175 = .int .i64 tj; rw [← h 175 (by decide)]; exact hv
        | 12, h, hv => show xq' 176 = .pointer (some ⟨wr.heap.size, 1, none⟩); rw [← h 176 (by decide)]; exact hv
        | 13, h, hv => show xq' 177 = .int .i64 uj; rw [← h 177 (by decide)]; exact hv
        | 14, h, hv => show xq' 178 = .bool false; rw [← h 178 (by decide)]; exact hv
        | 15, h, hv => show xq' 179 = .bool false; rw [← h 179 (by decide)]; exact hv
        | 16, h, hv => show xq' 180 = .bool false; rw [← h 180 (by decide)]; exact hv
        | _ + 17, _, _ => trivial
       ·intro jq xq wqq w' hb' hv
        match jq, hv with
        | 0, hv => exact hv
        | 1, hv => exact hv
        | 2, hv => exact hv
        | 3, hv => exact hv
        | 4, hv => exact hv
        | 5, hv => exact hv
        | 6, hv => exact hv
        | 7, hv => exact hv
        | 8, hv => exact hv
        | 9, hv => exact hv
        | 10, hv => exact hv
        | 11, hv => exact hv
        | 12, hv => exact hv
        | 13, hv => exact hv
        | 14, hv => exact hv
        | 15, hv => exact hv
        | 16, hv => exact hv
        | _ + 17, _ => trivial
       ·intro jq hj
        match jq, hj with
        | 0, hj => exact absurd hj (by decide)
        | 1, hj => exact absurd hj (by decide)
        | 2, hj => exact absurd hj (by decide)
        | 3, hj => exact absurd hj (by decide)
        | 4, hj => exact absurd hj (by decide)
        | 5, hj => exact absurd hj (by decide)
        | 6, hj => exact absurd hj (by decide)
        | 7, hj => exact absurd hj (by decide)
        | 8, hj => exact absurd hj (by decide)
        | 9, hj => exact absurd hj (by decide)
        | 10, hj => exact absurd hj (by decide)
        | 11, hj => exact absurd hj (by decide)
        | 12, hj => exact absurd hj (by decide)
        | 13, hj => exact absurd hj (by decide)
        | 14, hj => exact absurd hj (by decide)
        | 15, hj => exact absurd hj (by decide)
        | 16, hj => exact absurd hj (by decide)
        | _ + 17, _ => trivial
       ·refine ⟨?_, ?_, ?_, ?_, ?_, ?_, ?_, ?_, ?_, ?_, ?_, ?_, ?_, ?_, ?_, ?_, ?_, trivial⟩
        ·intro xq w1 hb1 hx K hK0
         have hK := fun v w' hb => hK0 v w' (.inl hb)
         clear hx hKc hK0
         simp only [runOf, setSlot, HRL.out, sr, Nat.reduceAdd, Nat.reduceEqDiff, if_true, if_false] at hK ⊢
         go_wp2_with (fail)
         exact hK _ _ (Below.refl _ _) rfl
        ·intro xq w1 hb1 hx K hK0
         have hK := fun v w' hb => hK0 v w' (.inl hb)
         have e164 : xq 164 = .bool true := hx 0 (by rfl) (by rfl)
         clear hx hKc hK0
         simp only [runOf, setSlot, HRL.out, sr, Nat.reduceAdd, Nat.reduceEqDiff, if_true, if_false] at hK ⊢
         simp only [e164] at hK ⊢
         clear e164
         go_wp2_with (fail)
         exact hK _ _ (Below.refl _ _) rfl
        ·intro xq w1 hb1 hx K hK0
         have hK := fun v w' hb => hK0 v w' (.inl hb)
         have e165 : xq 165 = .bool true := hx 1 (by rfl) (by rfl)
         clear hx hKc hK0
         simp only [runOf, setSlot, HRL.out, sr, Nat.reduceAdd, Nat.reduceEqDiff, if_true, if_false] at hK ⊢
         simp only [e165] at hK ⊢
         clear e165
         go_wp2_with (fail)
         exact hK _ _ (Below.refl _ _) rfl
        ·intro xq w1 hb1 hx K hK0
         have hK := fun v w' hb => hK0 v w' (.inl hb)
         have e165 : xq 165 = .bool true := hx 1 (by rfl) (by rfl)
         have e166 : xq 166 = .int .i64 (j : Int) := hx 2 (by rfl) (by rfl)
         clear hx hKc hK0
         simp only [runOf, setSlot, HRL.out, sr, Nat.reduceAdd, Nat.reduceEqDiff, if_true, if_false] at hK ⊢
         simp only [e165, e166] at hK ⊢
         clear e165 e166
         go_wp2_with (fail)
         exact hK _ _ (Below.refl _ _) rfl
        ·intro xq w1 hb1 hx K hK0
         have hK := fun v w' hb => hK0 v w' (.inl hb)
         have e165 : xq 165 = .bool true := hx 1 (by rfl) (by rfl)
         have e167 : xq 167 = .pointer (some ⟨wq.heap.size, j, none⟩) := hx 3 (by rfl) (by rfl)
         clear hx hKc hK0
         have k : w1.cell? ⟨wq.heap.size, j, none⟩ = some (.int .i64 tj) := by rw [HTJ.out]; exact cell4_at (Htl.out.up hb1.1) hj
         simp only [runOf, setSlot, HRL.out, sr, Nat.reduceAdd, Nat.reduceEqDiff, if_true, if_false] at hK ⊢
         simp only [e165, e167] at hK ⊢
         clear e165 e167
         go_wp2_with (fail)
         exact hK _ _ (Below.refl _ _) rfl
        ·intro xq w1 hb1 hx K hK0
         have hK := fun v w' hb => hK0 v w' (.inl hb)
         have e165 : xq 165 = .bool true := hx 1 (by rfl) (by rfl)
         clear hx hKc hK0
         simp only [runOf, setSlot, HRL.out, sr, Nat.reduceAdd, Nat.reduceEqDiff, if_true, if_false] at hK ⊢
         simp only [e165] at hK ⊢
         clear e165
         go_wp2_with (fail)
         exact hK _ _ (Below.refl _ _) rfl
        ·intro xq w1 hb1 hx K hK0
         have hK := fun v w' hb => hK0 v w' (.inl hb)
         have e165 : xq 165 = .bool true := hx 1 (by rfl) (by rfl)
         have e169 : xq 169 = .pointer (some ⟨wr.heap.size, 0, none⟩) := hx 5 (by rfl) (by rfl)
         clear hx hKc hK0
         have k : w1.cell? ⟨wr.heap.size, 0, none⟩ = some (.int .i64 lj) := hb1.2.cell 0
         simp only [runOf, setSlot, HRL.out, sr, Nat.reduceAdd, Nat.reduceEqDiff, if_true, if_false] at hK ⊢
         simp only [e165, e169] at hK ⊢
         clear e165 e169
         go_wp2_with (fail)
         exact hK _ _ (Below.refl _ _) rfl
        ·intro xq w1 hb1 hx K hK0
         have hK := fun v w' hb => hK0 v w' (.inl hb)
         have e165 : xq 165 = .bool true := hx 1 (by rfl) (by rfl)
         have e168 : xq 168 = .int .i64 tj := hx 4 (by rfl) (by rfl)
         have e170 : xq 170 = .int .i64 lj := hx 6 (by rfl) (by rfl)
         clear hx hKc hK0
         simp only [runOf, setSlot, HRL.out, sr, Nat.reduceAdd, Nat.reduceEqDiff, if_true, if_false] at hK ⊢
         simp only [e165, e168, e170] at hK ⊢
         clear e165 e168 e170
         go_wp2_with (fail)
         exact hK _ _ (Below.refl _ _) (congrArg Value.bool (decide_eq_false (by omega)))
        ·intro xq w1 hb1 hx K hK0
         have hK := fun v w' hb => hK0 v w' (.inl hb)
         have e165 : xq 165 = .bool true := hx 1 (by rfl) (by rfl)
         have e171 : xq 171 = .bool false := hx 7 (by rfl) (by rfl)
         clear hx hKc hK0
         simp only [runOf, setSlot, HRL.out, sr, Nat.reduceAdd, Nat.reduceEqDiff, if_true, if_false] at hK ⊢
         simp only [e165, e171] at hK ⊢
         clear e165 e171
         go_wp2_with (fail)
         exact hK _ _ (Below.refl _ _) rfl
        ·intro xq w1 hb1 hx K hK0
         have hK := fun v w' hb => hK0 v w' (.inl hb)
         have e172 : xq 172 = .bool false := hx 8 (by rfl) (by rfl)
         clear hx hKc hK0
         simp only [runOf, setSlot, HRL.out, sr, Nat.reduceAdd, Nat.reduceEqDiff, if_true, if_false] at hK ⊢
         simp only [e172] at hK ⊢
         clear e172
         go_wp2_with (fail)
         exact hK _ _ (Below.refl _ _) rfl
        ·intro xq w1 hb1 hx K hK0
         have hK := fun v w' hb => hK0 v w' (.inl hb)
         have e172 : xq 172 = .bool false := hx 8 (by rfl) (by rfl)
         have e173 : xq 173 = .int .i64 (j : Int) := hx 9 (by rfl) (by rfl)
         clear hx hKc hK0
         simp only [runOf, setSlot, HRL.out, sr, Nat.reduceAdd, Nat.reduceEqDiff, if_true, if_false] at hK ⊢
         simp only [e172, e173] at hK ⊢
         clear e172 e173
         go_wp2_with (fail)
         exact hK _ _ (Below.refl _ _) rfl
        ·intro xq w1 hb1 hx K hK0
         have hK := fun v w' hb => hK0 v w' (.inl hb)
         have e172 : xq 172 = .bool false := hx 8 (by rfl) (by rfl)
         have e174 : xq 174 = .pointer (some ⟨wq.heap.size, j, none⟩) := hx 10 (by rfl) (by rfl)
         clear hx hKc hK0
         have k : w1.cell? ⟨wq.heap.size, j, none⟩ = some (.int .i64 tj) := by rw [HTJ.out]; exact cell4_at (Htl.out.up hb1.1) hj
         simp only [runOf, setSlot, HRL.out, sr, Nat.reduceAdd, Nat.reduceEqDiff, if_true, if_false] at hK ⊢
         simp only [e172, e174] at hK ⊢
         clear e172 e174
         go_wp2_with (fail)
         exact hK _ _ (Below.refl _ _) rfl
        ·intro xq w1 hb1 hx K hK0
         have hK := fun v w' hb => hK0 v w' (.inl hb)
         have e172 : xq 172 = .bool false := hx 8 (by rfl) (by rfl)
         clear hx hKc hK0
         simp only [runOf, setSlot, HRL.out, sr, Nat.reduceAdd, Nat.reduceEqDiff, if_true, if_false] at hK ⊢
         simp only [e172] at hK ⊢
         clear e172
         go_wp2_with (fail)
         exact hK _ _ (Below.refl _ _) rfl
        ·intro xq w1 hb1 hx K hK0
         have hK := fun v w' hb => hK0 v w' (.inl hb)
         have e172 : xq 172 = .bool false := hx 8 (by rfl) (by rfl)
         have e176 : xq 176 = .pointer (some ⟨wr.heap.size, 1, none⟩) := hx 12 (by rfl) (by rfl)
         clear hx hKc hK0
         have k : w1.cell? ⟨wr.heap.size, 1, none⟩ = some (.int .i64 uj) := hb1.2.cell 1
         simp only [runOf, setSlot, HRL.out, sr, Nat.reduceAdd, Nat.reduceEqDiff, if_true, if_false] at hK ⊢
         simp only [e172, e176] at hK ⊢
         clear e172 e176
         go_wp2_with (fail)
         exact hK _ _ (Below.refl _ _) rfl
        ·intro xq w1 hb1 hx K hK0
         have hK := fun v w' hb => hK0 v w' (.inl hb)
         have e172 : xq 172 = .bool false := hx 8 (by rfl) (by rfl)
         have e175 : xq 175 = .int .i64 tj := hx 11 (by rfl) (by rfl)
         have e177 : xq 177 = .int .i64 uj := hx 13 (by rfl) (by rfl)
         clear hx hKc hK0
         simp only [runOf, setSlot, HRL.out, sr, Nat.reduceAdd, Nat.reduceEqDiff, if_true, if_false] at hK ⊢
         simp only [e172, e175, e177] at hK ⊢
         clear e172 e175 e177
         go_wp2_with (fail)
         exact hK _ _ (Below.refl _ _) (congrArg Value.bool (decide_eq_false (by omega)))
        ·intro xq w1 hb1 hx K hK0
         have hK := fun v w' hb => hK0 v w' (.inl hb)
         have e165 : xq 165 = .bool true := hx 1 (by rfl) (by rfl)
         have e172 : xq 172 = .bool false := hx 8 (by rfl) (by rfl)
         have e178 : xq 178 = .bool false := hx 14 (by rfl) (by rfl)
         clear hx hKc hK0
         simp only [runOf, setSlot, HRL.out, sr, Nat.reduceAdd, Nat.reduceEqDiff, if_true, if_false] at hK ⊢
         simp only [e165, e172, e178] at hK ⊢
         clear e165 e172 e178
         go_wp2_with (fail)
         exact hK _ _ (Below.refl _ _) rfl
        ·intro xq w1 hb1 hx K hK0
         have hK := fun v w' hb => hK0 v w' (.inl hb)
         have e165 : xq 165 = .bool true := hx 1 (by rfl) (by rfl)
         have e179 : xq 179 = .bool false := hx 15 (by rfl) (by rfl)
         clear hx hKc hK0
         simp only [runOf, setSlot, HRL.out, sr, Nat.reduceAdd, Nat.reduceEqDiff, if_true, if_false] at hK ⊢
         simp only [e165, e179] at hK ⊢
         clear e165 e179
         go_wp2_with (fail)
         exact hK _ _ (Below.refl _ _) rfl
       ·intro xq w1 hb1 hx
        have e164 : xq 164 = .bool true := hx 0 (by decide)
        have e165 : xq 165 = .bool true := hx 1 (by decide)
        have e166 : xq 166 = .int .i64 (j : Int) := hx 2 (by decide)
        have e167 : xq 167 = .pointer (some ⟨wq.heap.size, j, none⟩) := hx 3 (by decide)
        have e168 : xq 168 = .int .i64 tj := hx 4 (by decide)
        have e169 : xq 169 = .pointer (some ⟨wr.heap.size, 0, none⟩) := hx 5 (by decide)
        have e170 : xq 170 = .int .i64 lj := hx 6 (by decide)
        have e171 : xq 171 = .bool false := hx 7 (by decide)
        have e172 : xq 172 = .bool false := hx 8 (by decide)
        have e173 : xq 173 = .int .i64 (j : Int) := hx 9 (by decide)
        have e174 : xq 174 = .pointer (some ⟨wq.heap.size, j, none⟩) := hx 10 (by decide)
        have e175 : xq 175 = .int .i64 tj := hx 11 (by decide)
        have e176 : xq 176 = .pointer (some ⟨wr.heap.size, 1, none⟩) := hx 12 (by decide)
        have e177 : xq 177 = .int .i64 uj := hx 13 (by decide)
        have e178 : xq 178 = .bool false := hx 14 (by decide)
        have e179 : xq 179 = .bool false := hx 15 (by decide)
        have e180 : xq 180 = .bool false := hx 16 (by decide)
        clear hx
        simp only [runOf, setSlot, HRL.out, sr, Nat.reduceAdd, Nat.reduceEqDiff, if_true, if_false]
        simp only [e164, e165, e166, e167, e168, e169, e170, e171, e172, e173, e174, e175, e176, e177, e178, e179, e180]
        clear e164 e165 e166 e167 e168 e169 e170 e171 e172 e173 e174 e175 e176 e177 e178 e179 e180
        refine hKc _ _ ?_
        have HXL := Lib.hid hb1.1
        go_wp2_with fail
        go_roundw
        case rel => exact ⟨j + 1, by go_num, by omega, HLL.out.trans (HXL.out.mono hszl)⟩
        case measure => simp [intOf]; omega
      ·have hj' : j = 4 := by omega
       subst hj'
       go_wp2_with fail
       go_roundw
       case rel => exact ⟨i + 1, tkq, smq, by go_num, by omega, by omega, (HSc.out.up (HD23.out)).up HLL.out, only_up (only_up HGc.out HD23.out) HLL.out⟩
       case measure => first | (simp [intOf]; done) | (simp [intOf]; omega)
    | false =>
     obtain ⟨nt, hnt⟩ : ∃ z, z = hasN gs t0 t1 t2 t3 := ⟨_, rfl⟩
     have HNT := Lib.hid hnt
     have HFT := Lib.hid hft
     have HHT : Hid (B.holds t0 t1 t2 t3 = false) := Lib.hid (by rw [← HBX.out, holds_fit HOK.out HXX.out]; exact hft)
     clear hnt hft
     go_wp2_with fail
     refine (Fits_ok err miss full emp G H d q gs hs _ (HG.out.up (HBc.out.trans zg)) hgl' (HH.out.up (HBc.out.trans zg)) hhl' HE.out t0 t1 t2 t3 HXX.out).mono ?_
     rw [HBX.out, HHT.out]
     rintro e w20 ⟨rfl, hb20⟩
     have Hg20 := Lib.hid (Holds.up (by have h := Hgc.out; exact zp4 : Holds _ (w2.heap.size) 24 #[.int .i64 err, .int .i64 miss, .slice G gs.length d]) hb20)
     have Hc20 := Lib.hid (Holds.up (by have h := Hcc.out; exact zp4 : Holds _ (w2.heap.size + 1) 27 #[.int .i64 full, .int .i64 emp, .slice H hs.length q]) hb20)
     have Hb20 := Lib.hid (Holds.up (by have h := Hbc.out; exact zp4 : Holds _ (w4.heap.size) 76 #[.int .i64 B.l0, .int .i64 B.h0, .int .i64 B.l1, .int .i64 B.h1, .int .i64 B.l2, .int .i64 B.h2, .int .i64 B.l3, .int .i64 B.h3]) hb20)
     have Ht20 := Lib.hid (Holds.up (by have h := Htc.out; exact zp4 : Holds _ (wq.heap.size) 28 #[.int .i64 t0, .int .i64 t1, .int .i64 t2, .int .i64 t3]) hb20)
     have HD20 : Hid (Below wc.heap.size wc w20) := Lib.hid (Below.trans zg (hb20.mono (by first | exact Nat.le_refl _ | omega | (simp; done) | (simp; omega))))
     have hsd20 := HD20.out.size
     clear hb20
     clear kg0 kg1 kg2 lt_g kc0 kc1 kc2 lt_c kt0 kt1 kt2 kt3 lt_t
     obtain ⟨kg0, kg1, kg2⟩ := Hg20.out.c3
     have lt_g : w2.heap.size < w20.heap.size := Hg20.out.lt
     obtain ⟨kc0, kc1, kc2⟩ := Hc20.out.c3
     have lt_c : w2.heap.size + 1 < w20.heap.size := Hc20.out.lt
     obtain ⟨kt0, kt1, kt2, kt3⟩ := Ht20.out.c4
     have lt_t : wq.heap.size < w20.heap.size := Ht20.out.lt
     go_wp2_with fail
     refine (Has_ok err miss G d gs _ (HG.out.up (HBc.out.trans ((HD20.out.mono hszc2).trans zg))) hgl' HEG.out t0 t1 t2 t3 HXX.out).mono ?_
     rw [← HNT.out]
     rintro e w21 ⟨rfl, hb21⟩
     have Hg21 := Lib.hid (Holds.up (by have h := Hg20.out; exact zp4 : Holds _ (w2.heap.size) 24 #[.int .i64 err, .int .i64 miss, .slice G gs.length d]) hb21)
     have Hc21 := Lib.hid (Holds.up (by have h := Hc20.out; exact zp4 : Holds _ (w2.heap.size + 1) 27 #[.int .i64 full, .int .i64 emp, .slice H hs.length q]) hb21)
     have Hb21 := Lib.hid (Holds.up (by have h := Hb20.out; exact zp4 : Holds _ (w4.heap.size) 76 #[.int .i64 B.l0, .int .i64 B.h0, .int .i64 B.l1, .int .i64 B.h1, .int .i64 B.l2, .int .i64 B.h2, .int .i64 B.l3, .int .i64 B.h3]) hb21)
     have Ht21 := Lib.hid (Holds.up (by have h := Ht20.out; exact zp4 : Holds _ (wq.heap.size) 28 #[.int .i64 t0, .int .i64 t1, .int .i64 t2, .int .i64 t3]) hb21)
     have HD21 : Hid (Below wc.heap.size wc w21) := Lib.hid (HD20.out.trans (Below.trans zg (hb21.mono (by first | exact Nat.le_refl _ | omega | (simp; done) | (simp; omega)))))
     have hsd21 := HD21.out.size
     clear hb21
     clear kg0 kg1 kg2 lt_g kc0 kc1 kc2 lt_c kt0 kt1 kt2 kt3 lt_t
     obtain ⟨kg0, kg1, kg2⟩ := Hg21.out.c3
     have lt_g : w2.heap.size < w21.heap.size := Hg21.out.lt
     obtain ⟨kc0, kc1, kc2⟩ := Hc21.out.c3
     have lt_c : w2.heap.size + 1 < w21.heap.size := Hc21.out.lt
     obtain ⟨kt0, kt1, kt2, kt3⟩ := Ht21.out.c4
     have lt_t : wq.heap.size < w21.heap.size := Ht21.out.lt
     go_wp2_with fail
     refine (fits_any err miss G gs.length d H q hs t0 t1 t2 t3 ⟨HXX.out.p0, mix_le0 HXX.out⟩ ⟨HXX.out.p1, mix_le1 HXX.out⟩ ⟨HXX.out.p2, mix_le2 HXX.out⟩ ⟨HXX.out.p3, mix_le3 HXX.out⟩ i0 i2 _ (HH.out.up (HBc.out.trans ((HD21.out.mono hszc2).trans zg))) hhl' HTK.out).mono ?_
     rw [HFT.out]
     rintro e w22 ⟨rfl, hb22⟩
     have Hg22 := Lib.hid (Holds.up (by have h := Hg21.out; exact zp4 : Holds _ (w2.heap.size) 24 #[.int .i64 err, .int .i64 miss, .slice G gs.length d]) hb22)
     have Hc22 := Lib.hid (Holds.up (by have h := Hc21.out; exact zp4 : Holds _ (w2.heap.size + 1) 27 #[.int .i64 full, .int .i64 emp, .slice H hs.length q]) hb22)
     have Hb22 := Lib.hid (Holds.up (by have h := Hb21.out; exact zp4 : Holds _ (w4.heap.size) 76 #[.int .i64 B.l0, .int .i64 B.h0, .int .i64 B.l1, .int .i64 B.h1, .int .i64 B.l2, .int .i64 B.h2, .int .i64 B.l3, .int .i64 B.h3]) hb22)
     have Ht22 := Lib.hid (Holds.up (by have h := Ht21.out; exact zp4 : Holds _ (wq.heap.size) 28 #[.int .i64 t0, .int .i64 t1, .int .i64 t2, .int .i64 t3]) hb22)
     have HD22 : Hid (Below wc.heap.size wc w22) := Lib.hid (HD21.out.trans (Below.trans zg (hb22.mono (by first | exact Nat.le_refl _ | omega | (simp; done) | (simp; omega)))))
     have hsd22 := HD22.out.size
     clear hb22
     clear kg0 kg1 kg2 lt_g kc0 kc1 kc2 lt_c kt0 kt1 kt2 kt3 lt_t
     obtain ⟨kg0, kg1, kg2⟩ := Hg22.out.c3
     have lt_g : w2.heap.size < w22.heap.size := Hg22.out.lt
     obtain ⟨kc0, kc1, kc2⟩ := Hc22.out.c3
     have lt_c : w2.heap.size + 1 < w22.heap.size := Hc22.out.lt
     obtain ⟨kt0, kt1, kt2, kt3⟩ := Ht22.out.c4
     have lt_t : wq.heap.size < w22.heap.size := Ht22.out.lt
     go_wp2_with fail
     refine (has_any err miss G d gs t0 t1 t2 t3 _ (HG.out.up (HBc.out.trans ((HD22.out.mono hszc2).trans zg))) hgl').mono ?_
     rw [← HNT.out]
     rintro e w23 ⟨rfl, hb23⟩
     have Hg23 := Lib.hid (Holds.up (by have h := Hg22.out; exact zp4 : Holds _ (w2.heap.size) 24 #[.int .i64 err, .int .i64 miss, .slice G gs.length d]) hb23)
     have Hc23 := Lib.hid (Holds.up (by have h := Hc22.out; exact zp4 : Holds _ (w2.heap.size + 1) 27 #[.int .i64 full, .int .i64 emp, .slice H hs.length q]) hb23)
     have Hb23 := Lib.hid (Holds.up (by have h := Hb22.out; exact zp4 : Holds _ (w4.heap.size) 76 #[.int .i64 B.l0, .int .i64 B.h0, .int .i64 B.l1, .int .i64 B.h1, .int .i64 B.l2, .int .i64 B.h2, .int .i64 B.l3, .int .i64 B.h3]) hb23)
     have Ht23 := Lib.hid (Holds.up (by have h := Ht22.out; exact zp4 : Holds _ (wq.heap.size) 28 #[.int .i64 t0, .int .i64 t1, .int .i64 t2, .int .i64 t3]) hb23)
     have HD23 : Hid (Below wc.heap.size wc w23) := Lib.hid (HD22.out.trans (Below.trans zg (hb23.mono (by first | exact Nat.le_refl _ | omega | (simp; done) | (simp; omega)))))
     have hsd23 := HD23.out.size
     clear hb23
     clear kg0 kg1 kg2 lt_g kc0 kc1 kc2 lt_c kt0 kt1 kt2 kt3 lt_t
     obtain ⟨kb0, kb1, kb2, kb3, kb4, kb5, kb6, kb7⟩ := Hb23.out.c8
     have lt_b : w4.heap.size < w23.heap.size := Hb23.out.lt
     go_wp2_with fail
     go_loopw [160] (fun v160 wr => ∃ j : Nat, v160 = .int .i64 (j : Int) ∧ j ≤ 4 ∧ Below w23.heap.size w23 wr) (fun v160 _ => 4 - (intOf v160).toNat)
     case atStart => exact ⟨0, rfl, by decide, Below.refl _ _⟩
     case round =>
      obtain ⟨j, rfl, hj4, hl⟩ := hrel
      have HLL := Lib.hid hl
      have hszl := hl.size
      clear hl kb0 kb1 kb2 kb3 kb4 kb5 kb6 kb7 lt_b
      have Htl := Lib.hid (Ht23.out.up HLL.out)
      have lt_t := Htl.out.lt
      by_cases hj : j < 4
      ·have hji : (j : Int) < 4 := by omega
       obtain ⟨lj, hlj⟩ : ∃ z, z = bLo B j := ⟨_, rfl⟩
       obtain ⟨uj, huj⟩ : ∃ z, z = bHi B j := ⟨_, rfl⟩
       obtain ⟨tj, htj⟩ : ∃ z, z = gat t0 t1 t2 t3 j := ⟨_, rfl⟩
       have ix : ∀ w : World, (Instr.index 76 (.agg #[.int .i64 B.l0, .int .i64 B.h0, .int .i64 B.l1, .int .i64 B.h1, .int .i64 B.l2, .int .i64 B.h2, .int .i64 B.l3, .int .i64 B.h3]) (.int .i64 (j : Int))).run Try.prog w = .ok (.agg #[.int .i64 lj, .int .i64 uj]) w := by rw [hlj, huj]; exact ix_span B hj
       have HTJ := Lib.hid htj
       clear hlj huj htj
       go_wp2_with fail
       rename_i Kc hKc
       have HRL := Lib.hid (show List.range' 164 17 = [164, 165, 166, 167, 168, 169, 170, 171, 172, 173, 174, 175, 176, 177, 178, 179, 180] from rfl)
       refine wp_region_partsR 164 17 (by kernel_rfl) [some 164, some 165, some 166, some 167, some 168, some 169, some 170, some 171, some 172, some 173, some 174, some 175, some 176, some 177, some 178, some 179, some 180] (fun jq xq w' => match jq with
        | 0 => xq 164 = .bool false
        | 1 => xq 165 = .bool false
        | 2 => True
        | 3 => True
        | 4 => True
        | 5 => True
        | 6 => True
        | 7 => True
        | 8 => xq 172 = undef
        | 9 => True
        | 10 => True
        | 11 => True
        | 12 => True
        | 13 => True
        | 14 => True
        | 15 => xq 179 = undef
        | 16 => xq 180 = .bool false
        | _ => True) [[164], [165], [], [], [], [], [], [], [172], [], [], [], [], [], [], [179], [180]] [] (fun w' => Below wr.heap.size wr w' ∧ Holds w' wr.heap.size 60 #[.int .i64 lj, .int .i64 uj]) (by kernel_rfl) (by kernel_rfl) (by rfl) ?_ ?_ (fun w' w'' hb h => ⟨h.1.trans (hb.mono h.1.size), h.2.up hb⟩) (⟨zg, Holds.new _ _ _⟩) ?_ ?_ ?_
       ·intro jq xq xq' wqq h hv
        match jq, h, hv with
        | 0, h, hv => show xq' 164 = .bool false; rw [← h 164 (by decide)]; exact hv
        | 1, h, hv => show xq' 165 = .bool false; rw [← h 165 (by decide)]; exact hv
        | 2, h, hv => exact hv
        | 3, h, hv => exact hv
        | 4, h, hv => exact hv
        | 5, h, hv => exact hv
        | 6, h, hv => exact hv
        | 7, h, hv => exact hv
        | 8, h, hv => show xq' 172 = undef; rw [← h 172 (by decide)]; exact hv
        | 9, h, hv => exact hv
        | 10, h, hv => exact hv
        | 11, h, hv => exact hv
        | 12, h, hv => exact hv
        | 13, h, hv => exact hv
        | 14, h, hv => exact hv
        | 15, h, hv => show xq' 179 = undef; rw [← h 179 (by decide)]; exact hv
        | 16, h, hv => show xq' 180 = .bool false; rw [← h 180 (by decide)]; exact hv
        | _ + 17, _, _ => trivial
       ·intro jq xq wqq w' hb' hv
        match jq, hv with
        | 0, hv => exact hv
        | 1, hv => exact hv
        | 2, hv => exact hv
        | 3, hv => exact hv
        | 4, hv => exact hv
        | 5, hv => exact hv
        | 6, hv => exact hv
        | 7, hv => exact hv
        | 8, hv => exact hv
        | 9, hv => exact hv
        | 10, hv => exact hv
        | 11, hv => exact hv
        | 12, hv => exact hv
        | 13, hv => exact hv
        | 14, hv => exact hv
        | 15, hv => exact hv
        | 16, hv => exact hv
        | _ + 17, _ => trivial
       ·intro jq hj
        match jq, hj with
        | 0, hj => exact absurd hj (by decide)
        | 1, hj => exact absurd hj (by decide)
        | 2, hj => exact absurd hj (by decide)
        | 3, hj => exact absurd hj (by decide)
        | 4, hj => exact absurd hj (by decide)
        | 5, hj => exact absurd hj (by decide)
        | 6, hj => exact absurd hj (by decide)
        | 7, hj => exact absurd hj (by decide)
        | 8, hj => exact absurd hj (by decide)
        | 9, hj => exact absurd hj (by decide)
        | 10, hj => exact absurd hj (by decide)
        | 11, hj => exact absurd hj (by decide)
        | 12, hj => exact absurd hj (by decide)
        | 13, hj => exact absurd hj (by decide)
        | 14, hj => exact absurd hj (by decide)
        | 15, hj => exact absurd hj (by decide)
        | 16, hj => exact absurd hj (by decide)
        | _ + 17, _ => trivial
       ·refine ⟨?_, ?_, ?_, ?_, ?_, ?_, ?_, ?_, ?_, ?_, ?_, ?_, ?_, ?_, ?_, ?_, ?_, trivial⟩
        ·intro xq w1 hb1 hx K hK0
         have hK := fun v w' hb => hK0 v w' (.inl hb)
         clear hx hKc hK0
         simp only [runOf, setSlot, HRL.out, sr, Nat.reduceAdd, Nat.reduceEqDiff, if_true, if_false] at hK ⊢
         go_wp2_with (fail)
         exact hK _ _ (Below.refl _ _) rfl
        ·intro xq w1 hb1 hx K hK0
         have hK := fun v w' hb => hK0 v w' (.inl hb)
         have e164 : xq 164 = .bool false := hx 0 (by rfl) (by rfl)
         clear hx hKc hK0
         simp only [runOf, setSlot, HRL.out, sr, Nat.reduceAdd, Nat.reduceEqDiff, if_true, if_false] at hK ⊢
         simp only [e164] at hK ⊢
         clear e164
         go_wp2_with (fail)
         exact hK _ _ (Below.refl _ _) rfl
        ·intro xq w1 hb1 hx K hK0
         have hK := fun v w' hb => hK0 v w' (.inl hb)
         have e165 : xq 165 = .bool false := hx 1 (by rfl) (by rfl)
         clear hx hKc hK0
         simp only [runOf, setSlot, HRL.out, sr, Nat.reduceAdd, Nat.reduceEqDiff, if_true, if_false] at hK ⊢
         simp only [e165] at hK ⊢
         clear e165
         go_wp2_with (fail)
         exact hK _ _ (Below.refl _ _) trivial
        ·intro xq w1 hb1 hx K hK0
         have hK := fun v w' hb => hK0 v w' (.inl hb)
         have e165 : xq 165 = .bool false := hx 1 (by rfl) (by rfl)
         clear hx hKc hK0
         simp only [runOf, setSlot, HRL.out, sr, Nat.reduceAdd, Nat.reduceEqDiff, if_true, if_false] at hK ⊢
         simp only [e165] at hK ⊢
         clear e165
         go_wp2_with (fail)
         exact hK _ _ (Below.refl _ _) trivial
        ·intro xq w1 hb1 hx K hK0
         have hK := fun v w' hb => hK0 v w' (.inl hb)
         have e165 : xq 165 = .bool false := hx 1 (by rfl) (by rfl)
         clear hx hKc hK0
         simp only [runOf, setSlot, HRL.out, sr, Nat.reduceAdd, Nat.reduceEqDiff, if_true, if_false] at hK ⊢
         simp only [e165] at hK ⊢
         clear e165
         go_wp2_with (fail)
         exact hK _ _ (Below.refl _ _) trivial
        ·intro xq w1 hb1 hx K hK0
         have hK := fun v w' hb => hK0 v w' (.inl hb)
         have e165 : xq 165 = .bool false := hx 1 (by rfl) (by rfl)
         clear hx hKc hK0
         simp only [runOf, setSlot, HRL.out, sr, Nat.reduceAdd, Nat.reduceEqDiff, if_true, if_false] at hK ⊢
         simp only [e165] at hK ⊢
         clear e165
         go_wp2_with (fail)
         exact hK _ _ (Below.refl _ _) trivial
        ·intro xq w1 hb1 hx K hK0
         have hK := fun v w' hb => hK0 v w' (.inl hb)
         have e165 : xq 165 = .bool false := hx 1 (by rfl) (by rfl)
         clear hx hKc hK0
         simp only [runOf, setSlot, HRL.out, sr, Nat.reduceAdd, Nat.reduceEqDiff, if_true, if_false] at hK ⊢
         simp only [e165] at hK ⊢
         clear e165
         go_wp2_with (fail)
         exact hK _ _ (Below.refl _ _) trivial
        ·intro xq w1 hb1 hx K hK0
         have hK := fun v w' hb => hK0 v w' (.inl hb)
         have e165 : xq 165 = .bool false := hx 1 (by rfl) (by rfl)
         clear hx hKc hK0
         simp only [runOf, setSlot, HRL.out, sr, Nat.reduceAdd, Nat.reduceEqDiff, if_true, if_false] at hK ⊢
         simp only [e165] at hK ⊢
         clear e165
         go_wp2_with (fail)
         exact hK _ _ (Below.refl _ _) trivial
        ·intro xq w1 hb1 hx K hK0
         have hK := fun v w' hb => hK0 v w' (.inl hb)
         have e165 : xq 165 = .bool false := hx 1 (by rfl) (by rfl)
         clear hx hKc hK0
         simp only [runOf, setSlot, HRL.out, sr, Nat.reduceAdd, Nat.reduceEqDiff, if_true, if_false] at hK ⊢
         simp only [e165] at hK ⊢
         clear e165
         go_wp2_with (fail)
         exact hK _ _ (Below.refl _ _) rfl
        ·intro xq w1 hb1 hx K hK0
         have hK := fun v w' hb => hK0 v w' (.inl hb)
         have e172 : xq 172 = undef := hx 8 (by rfl) (by rfl)
         clear hx hKc hK0
         simp only [runOf, setSlot, HRL.out, sr, Nat.reduceAdd, Nat.reduceEqDiff, if_true, if_false] at hK ⊢
         simp only [e172] at hK ⊢
         clear e172
         go_wp2_with (fail)
         exact hK _ _ (Below.refl _ _) trivial
        ·intro xq w1 hb1 hx K hK0
         have hK := fun v w' hb => hK0 v w' (.inl hb)
         have e172 : xq 172 = undef := hx 8 (by rfl) (by rfl)
         clear hx hKc hK0
         simp only [runOf, setSlot, HRL.out, sr, Nat.reduceAdd, Nat.reduceEqDiff, if_true, if_false] at hK ⊢
         simp only [e172] at hK ⊢
         clear e172
         go_wp2_with (fail)
         exact hK _ _ (Below.refl _ _) trivial
        ·intro xq w1 hb1 hx K hK0
         have hK := fun v w' hb => hK0 v w' (.inl hb)
         have e172 : xq 172 = undef := hx 8 (by rfl) (by rfl)
         clear hx hKc hK0
         simp only [runOf, setSlot, HRL.out, sr, Nat.reduceAdd, Nat.reduceEqDiff, if_true, if_false] at hK ⊢
         simp only [e172] at hK ⊢
         clear e172
         go_wp2_with (fail)
         exact hK _ _ (Below.refl _ _) trivial
        ·intro xq w1 hb1 hx K hK0
         have hK := fun v w' hb => hK0 v w' (.inl hb)
         have e172 : xq 172 = undef := hx 8 (by rfl) (by rfl)
         clear hx hKc hK0
         simp only [runOf, setSlot, HRL.out, sr, Nat.reduceAdd, Nat.reduceEqDiff, if_true, if_false] at hK ⊢
         simp only [e172] at hK ⊢
         clear e172
         go_wp2_with (fail)
         exact hK _ _ (Below.refl _ _) trivial
        ·intro xq w1 hb1 hx K hK0
         have hK := fun v w' hb => hK0 v w' (.inl hb)
         have e172 : xq 172 = undef := hx 8 (by rfl) (by rfl)
         clear hx hKc hK0
         simp only [runOf, setSlot, HRL.out, sr, Nat.reduceAdd, Nat.reduceEqDiff, if_true, if_false] at hK ⊢
         simp only [e172] at hK ⊢
         clear e172
         go_wp2_with (fail)
         exact hK _ _ (Below.refl _ _) trivial
        ·intro xq w1 hb1 hx K hK0
         have hK := fun v w' hb => hK0 v w' (.inl hb)
         have e172 : xq 172 = undef := hx 8 (by rfl) (by rfl)
         clear hx hKc hK0
         simp only [runOf, setSlot, HRL.out, sr, Nat.reduceAdd, Nat.reduceEqDiff, if_true, if_false] at hK ⊢
         simp only [e172] at hK ⊢
         clear e172
         go_wp2_with (fail)
         exact hK _ _ (Below.refl _ _) trivial
        ·intro xq w1 hb1 hx K hK0
         have hK := fun v w' hb => hK0 v w' (.inl hb)
         have e165 : xq 165 = .bool false := hx 1 (by rfl) (by rfl)
         have e172 : xq 172 = undef := hx 8 (by rfl) (by rfl)
         clear hx hKc hK0
         simp only [runOf, setSlot, HRL.out, sr, Nat.reduceAdd, Nat.reduceEqDiff, if_true, if_false] at hK ⊢
         simp only [e165, e172] at hK ⊢
         clear e165 e172
         go_wp2_with (fail)
         exact hK _ _ (Below.refl _ _) rfl
        ·intro xq w1 hb1 hx K hK0
         have hK := fun v w' hb => hK0 v w' (.inl hb)
         have e165 : xq 165 = .bool false := hx 1 (by rfl) (by rfl)
         have e179 : xq 179 = undef := hx 15 (by rfl) (by rfl)
         clear hx hKc hK0
         simp only [runOf, setSlot, HRL.out, sr, Nat.reduceAdd, Nat.reduceEqDiff, if_true, if_false] at hK ⊢
         simp only [e165, e179] at hK ⊢
         clear e165 e179
         go_wp2_with (fail)
         exact hK _ _ (Below.refl _ _) rfl
       ·intro xq w1 hb1 hx
        have e164 : xq 164 = .bool false := hx 0 (by decide)
        have e165 : xq 165 = .bool false := hx 1 (by decide)
        have e172 : xq 172 = undef := hx 8 (by decide)
        have e179 : xq 179 = undef := hx 15 (by decide)
        have e180 : xq 180 = .bool false := hx 16 (by decide)
        clear hx
        simp only [runOf, setSlot, HRL.out, sr, Nat.reduceAdd, Nat.reduceEqDiff, if_true, if_false]
        simp only [e164, e165, e172, e179, e180]
        clear e164 e165 e172 e179 e180
        refine hKc _ _ ?_
        have HXL := Lib.hid hb1.1
        go_wp2_with fail
        go_roundw
        case rel => exact ⟨j + 1, by go_num, by omega, HLL.out.trans (HXL.out.mono hszl)⟩
        case measure => simp [intOf]; omega
      ·have hj' : j = 4 := by omega
       subst hj'
       go_wp2_with fail
       go_roundw
       case rel => exact ⟨i + 1, tkq, smq, by go_num, by omega, by omega, (HSc.out.up (HD23.out)).up HLL.out, only_up (only_up HGc.out HD23.out) HLL.out⟩
       case measure => first | (simp [intOf]; done) | (simp [intOf]; omega)
  ·have hi : (i : Int) = 12 := by omega
   rw [hi]
   clear kg0 kg1 kg2 lt_g kc0 kc1 kc2 lt_c km0 km1 km2 km3 lt_m
   go_wp2_with fail
   have HBr : Hid (Below w2.heap.size w2 wr) := Lib.hid (HB12.out.grown HGr.out (by omega) (fun k hk => by cases hk; omega))
   have hszr2 := HBr.out.size
   obtain ⟨k, hk4, hka⟩ : ∃ k : Nat, k < 4 ∧ a2 % 4 = (k : Int) := ⟨(a2 % 4).toNat, by omega, by omega⟩
   have hki : (k : Int) < 4 := by omega
   obtain ⟨lk, hlk⟩ : ∃ z, z = bLo B k := ⟨_, rfl⟩
   obtain ⟨uk, huk⟩ : ∃ z, z = bHi B k := ⟨_, rfl⟩
   have HLK := Lib.hid hlk
   have HUK := Lib.hid huk
   have hlb := bk_bd HBK.out hk4
   rw [← hlk, ← huk] at hlb
   have HLU : Hid (lk ≤ uk) := Lib.hid (by rw [hlk, huk]; exact bk_le HBM.out hk4)
   obtain ⟨hl0, hl1, hu0, hu1⟩ := hlb
   clear hlk huk
   go_wp2_with fail
   rw [hka]
   rename_i Kc hKc
   have HRL := Lib.hid (show List.range' 186 46 = [186, 187, 188, 189, 190, 191, 192, 193, 194, 195, 196, 197, 198, 199, 200, 201, 202, 203, 204, 205, 206, 207, 208, 209, 210, 211, 212, 213, 214, 215, 216, 217, 218, 219, 220, 221, 222, 223, 224, 225, 226, 227, 228, 229, 230, 231] from rfl)
   refine wp_region_partsR 186 46 (by kernel_rfl) [some 186, some 187, some 188, some 189, some 190, some 191, some 192, some 193, some 194, some 195, some 196, some 197, some 198, some 199, some 200, some 201, some 202, some 203, some 204, some 205, some 206, some 207, some 208, some 209, some 210, some 211, some 212, some 213, some 214, some 215, some 216, some 217, some 218, some 219, some 220, some 221, some 222, some 223, some 224, some 225, some 226, some 227, some 228, some 229, some 230, some 231] (fun jq xq w' => match jq with
    | 0 => xq 186 = .agg #[.int .i64 err, .int .i64 miss, .slice G gs.length d]
    | 1 => xq 187 = .pointer (some ⟨w2.heap.size + 1, 2, none⟩)
    | 2 => xq 188 = .slice H hs.length q
    | 3 => xq 189 = .int .i64 (k : Int)
    | 4 => xq 190 = .int .i64 (k : Int)
    | 5 => xq 191 = .pointer (some ⟨w4.heap.size, k * 2, none⟩)
    | 6 => xq 192 = .pointer (some ⟨w4.heap.size, k * 2, none⟩)
    | 7 => xq 193 = .int .i64 lk
    | 8 => xq 194 = .bool true
    | 9 => xq 195 = .bool false
    | 10 => xq 196 = .bool false
    | 11 => xq 197 = .agg #[.int .i64 err, .int .i64 miss, .slice G gs.length d]
    | 12 => xq 198 = .pointer (some ⟨w2.heap.size + 1, 2, none⟩)
    | 13 => xq 199 = .slice H hs.length q
    | 14 => xq 200 = .int .i64 (k : Int)
    | 15 => xq 201 = .int .i64 (k : Int)
    | 16 => xq 202 = .pointer (some ⟨w4.heap.size, k * 2, none⟩)
    | 17 => xq 203 = .pointer (some ⟨w4.heap.size, k * 2 + 1, none⟩)
    | 18 => xq 204 = .int .i64 uk
    | 19 => xq 205 = .bool true
    | 20 => xq 206 = .bool false
    | 21 => xq 207 = .bool false
    | 22 => xq 208 = .bool false
    | 23 => xq 209 = .agg #[.int .i64 err, .int .i64 miss, .slice G gs.length d]
    | 24 => xq 210 = .pointer (some ⟨w2.heap.size + 1, 2, none⟩)
    | 25 => xq 211 = .slice H hs.length q
    | 26 => xq 212 = .int .i64 (k : Int)
    | 27 => xq 213 = .int .i64 (k : Int)
    | 28 => xq 214 = .pointer (some ⟨w4.heap.size, k * 2, none⟩)
    | 29 => xq 215 = .pointer (some ⟨w4.heap.size, k * 2, none⟩)
    | 30 => xq 216 = .int .i64 lk
    | 31 => xq 217 = .int .i64 (lk - 1)
    | 32 => xq 218 = .bool false
    | 33 => xq 219 = .bool false
    | 34 => xq 220 = .bool false
    | 35 => xq 221 = .agg #[.int .i64 err, .int .i64 miss, .slice G gs.length d]
    | 36 => xq 222 = .pointer (some ⟨w2.heap.size + 1, 2, none⟩)
    | 37 => xq 223 = .slice H hs.length q
    | 38 => xq 224 = .int .i64 (k : Int)
    | 39 => xq 225 = .int .i64 (k : Int)
    | 40 => xq 226 = .pointer (some ⟨w4.heap.size, k * 2, none⟩)
    | 41 => xq 227 = .pointer (some ⟨w4.heap.size, k * 2 + 1, none⟩)
    | 42 => xq 228 = .int .i64 uk
    | 43 => xq 229 = .int .i64 (uk + 1)
    | 44 => xq 230 = .bool false
    | 45 => xq 231 = .bool false
    | _ => True) [[186], [187], [188], [189], [190], [191], [192], [193], [194], [195], [196], [197], [198], [199], [200], [201], [202], [203], [204], [205], [206], [207], [208], [209], [210], [211], [212], [213], [214], [215], [216], [217], [218], [219], [220], [221], [222], [223], [224], [225], [226], [227], [228], [229], [230], [231]] [] (fun w' => Below wr.heap.size wr w') (by kernel_rfl) (by kernel_rfl) (by rfl) ?_ ?_ (fun w' w'' hb h => h.trans (hb.mono h.size)) (Below.refl _ _) ?_ ?_ ?_
   ·intro jq xq xq' wqq h hv
    match jq, h, hv with
    | 0, h, hv => show xq' 186 = .agg #[.int .i64 err, .int .i64 miss, .slice G gs.length d]; rw [← h 186 (by decide)]; exact hv
    | 1, h, hv => show xq' 187 = .pointer (some ⟨w2.heap.size + 1, 2, none⟩); rw [← h 187 (by decide)]; exact hv
    | 2, h, hv => show xq' 188 = .slice H hs.length q; rw [← h 188 (by decide)]; exact hv
    | 3, h, hv => show xq' 189 = .int .i64 (k : Int); rw [← h 189 (by decide)]; exact hv
    | 4, h, hv => show xq' 190 = .int .i64 (k : Int); rw [← h 190 (by decide)]; exact hv
    | 5, h, hv => show xq' 191 = .pointer (some ⟨w4.heap.size, k * 2, none⟩); rw [← h 191 (by decide)]; exact hv
    | 6, h, hv => show xq' 192 = .pointer (some ⟨w4.heap.size, k * 2, none⟩); rw [← h 192 (by decide)]; exact hv
    | 7, h, hv => show xq' 193 = .int .i64 lk; rw [← h 193 (by decide)]; exact hv
    | 8, h, hv => show xq' 194 = .bool true; rw [← h 194 (by decide)]; exact hv
    | 9, h, hv => show xq' 195 = .bool false; rw [← h 195 (by decide)]; exact hv
    | 10, h, hv => show xq' 196 = .bool false; rw [← h 196 (by decide)]; exact hv
    | 11, h, hv => show xq' 197 = .agg #[.int .i64 err, .int .i64 miss, .slice G gs.length d]; rw [← h 197 (by decide)]; exact hv
    | 12, h, hv => show xq' 198 = .pointer (some ⟨w2.heap.size + 1, 2, none⟩); rw [← h 198 (by decide)]; exact hv
    | 13, h, hv => show xq' 199 = .slice H hs.length q; rw [← h 199 (by decide)]; exact hv
    | 14, h, hv => show xq' 200 = .int .i64 (k : Int); rw [← h 200 (by decide)]; exact hv
    | 15, h, hv => show xq' 201 = .int .i64 (k : Int); rw [← h 201 (by decide)]; exact hv
    | 16, h, hv => show xq' 202 = .pointer (some ⟨w4.heap.size, k * 2, none⟩); rw [← h 202 (by decide)]; exact hv
    | 17, h, hv => show xq' 203 = .pointer (some ⟨w4.heap.size, k * 2 + 1, none⟩); rw [← h 203 (by decide)]; exact hv
    | 18, h, hv => show xq' 204 = .int .i64 uk; rw [← h 204 (by decide)]; exact hv
    | 19, h, hv => show xq' 205 = .bool true; rw [← h 205 (by decide)]; exact hv
    | 20, h, hv => show xq' 206 = .bool false; rw [← h 206 (by decide)]; exact hv
    | 21, h, hv => show xq' 207 = .bool false; rw [← h 207 (by decide)]; exact hv
    | 22, h, hv => show xq' 208 = .bool false; rw [← h 208 (by decide)]; exact hv
    | 23, h, hv => show xq' 209 = .agg #[.int .i64 err, .int .i64 miss, .slice G gs.length d]; rw [← h 209 (by decide)]; exact hv
    | 24, h, hv => show xq' 210 = .pointer (some ⟨w2.heap.size + 1, 2, none⟩); rw [← h 210 (by decide)]; exact hv
    | 25, h, hv => show xq' 211 = .slice H hs.length q; rw [← h 211 (by decide)]; exact hv
    | 26, h, hv => show xq' 212 = .int .i64 (k : Int); rw [← h 212 (by decide)]; exact hv
    | 27, h, hv => show xq' 213 = .int .i64 (k : Int); rw [← h 213 (by decide)]; exact hv
    | 28, h, hv => show xq' 214 = .pointer (some ⟨w4.heap.size, k * 2, none⟩); rw [← h 214 (by decide)]; exact hv
    | 29, h, hv => show xq' 215 = .pointer (some ⟨w4.heap.size, k * 2, none⟩); rw [← h 215 (by decide)]; exact hv
    | 30, h, hv => show xq' 216 = .int .i64 lk; rw [← h 216 (by decide)]; exact hv
    | 31, h, hv => show xq' 217 = .int .i64 (lk - 1); rw [← h 217 (by decide)]; exact hv
    | 32, h, hv => show xq' 218 = .bool false; rw [← h 218 (by decide)]; exact hv
    | 33, h, hv => show xq' 219 = .bool false; rw [← h 219 (by decide)]; exact hv
    | 34, h, hv => show xq' 220 = .bool false; rw [← h 220 (by decide)]; exact hv
    | 35, h, hv => show xq' 221 = .agg #[.int .i64 err, .int .i64 miss, .slice G gs.length d]; rw [← h 221 (by decide)]; exact hv
    | 36, h, hv => show xq' 222 = .pointer (some ⟨w2.heap.size + 1, 2, none⟩); rw [← h 222 (by decide)]; exact hv
    | 37, h, hv => show xq' 223 = .slice H hs.length q; rw [← h 223 (by decide)]; exact hv
    | 38, h, hv => show xq' 224 = .int .i64 (k : Int); rw [← h 224 (by decide)]; exact hv
    | 39, h, hv => show xq' 225 = .int .i64 (k : Int); rw [← h 225 (by decide)]; exact hv
    | 40, h, hv => show xq' 226 = .pointer (some ⟨w4.heap.size, k * 2, none⟩); rw [← h 226 (by decide)]; exact hv
    | 41, h, hv => show xq' 227 = .pointer (some ⟨w4.heap.size, k * 2 + 1, none⟩); rw [← h 227 (by decide)]; exact hv
    | 42, h, hv => show xq' 228 = .int .i64 uk; rw [← h 228 (by decide)]; exact hv
    | 43, h, hv => show xq' 229 = .int .i64 (uk + 1); rw [← h 229 (by decide)]; exact hv
    | 44, h, hv => show xq' 230 = .bool false; rw [← h 230 (by decide)]; exact hv
    | 45, h, hv => show xq' 231 = .bool false; rw [← h 231 (by decide)]; exact hv
    | _ + 46, _, _ => trivial
   ·intro jq xq wqq w' hb' hv
    match jq, hv with
    | 0, hv => exact hv
    | 1, hv => exact hv
    | 2, hv => exact hv
    | 3, hv => exact hv
    | 4, hv => exact hv
    | 5, hv => exact hv
    | 6, hv => exact hv
    | 7, hv => exact hv
    | 8, hv => exact hv
    | 9, hv => exact hv
    | 10, hv => exact hv
    | 11, hv => exact hv
    | 12, hv => exact hv
    | 13, hv => exact hv
    | 14, hv => exact hv
    | 15, hv => exact hv
    | 16, hv => exact hv
    | 17, hv => exact hv
    | 18, hv => exact hv
    | 19, hv => exact hv
    | 20, hv => exact hv
    | 21, hv => exact hv
    | 22, hv => exact hv
    | 23, hv => exact hv
    | 24, hv => exact hv
    | 25, hv => exact hv
    | 26, hv => exact hv
    | 27, hv => exact hv
    | 28, hv => exact hv
    | 29, hv => exact hv
    | 30, hv => exact hv
    | 31, hv => exact hv
    | 32, hv => exact hv
    | 33, hv => exact hv
    | 34, hv => exact hv
    | 35, hv => exact hv
    | 36, hv => exact hv
    | 37, hv => exact hv
    | 38, hv => exact hv
    | 39, hv => exact hv
    | 40, hv => exact hv
    | 41, hv => exact hv
    | 42, hv => exact hv
    | 43, hv => exact hv
    | 44, hv => exact hv
    | 45, hv => exact hv
    | _ + 46, _ => trivial
   ·intro jq hj
    match jq, hj with
    | 0, hj => exact absurd hj (by decide)
    | 1, hj => exact absurd hj (by decide)
    | 2, hj => exact absurd hj (by decide)
    | 3, hj => exact absurd hj (by decide)
    | 4, hj => exact absurd hj (by decide)
    | 5, hj => exact absurd hj (by decide)
    | 6, hj => exact absurd hj (by decide)
    | 7, hj => exact absurd hj (by decide)
    | 8, hj => exact absurd hj (by decide)
    | 9, hj => exact absurd hj (by decide)
    | 10, hj => exact absurd hj (by decide)
    | 11, hj => exact absurd hj (by decide)
    | 12, hj => exact absurd hj (by decide)
    | 13, hj => exact absurd hj (by decide)
    | 14, hj => exact absurd hj (by decide)
    | 15, hj => exact absurd hj (by decide)
    | 16, hj => exact absurd hj (by decide)
    | 17, hj => exact absurd hj (by decide)
    | 18, hj => exact absurd hj (by decide)
    | 19, hj => exact absurd hj (by decide)
    | 20, hj => exact absurd hj (by decide)
    | 21, hj => exact absurd hj (by decide)
    | 22, hj => exact absurd hj (by decide)
    | 23, hj => exact absurd hj (by decide)
    | 24, hj => exact absurd hj (by decide)
    | 25, hj => exact absurd hj (by decide)
    | 26, hj => exact absurd hj (by decide)
    | 27, hj => exact absurd hj (by decide)
    | 28, hj => exact absurd hj (by decide)
    | 29, hj => exact absurd hj (by decide)
    | 30, hj => exact absurd hj (by decide)
    | 31, hj => exact absurd hj (by decide)
    | 32, hj => exact absurd hj (by decide)
    | 33, hj => exact absurd hj (by decide)
    | 34, hj => exact absurd hj (by decide)
    | 35, hj => exact absurd hj (by decide)
    | 36, hj => exact absurd hj (by decide)
    | 37, hj => exact absurd hj (by decide)
    | 38, hj => exact absurd hj (by decide)
    | 39, hj => exact absurd hj (by decide)
    | 40, hj => exact absurd hj (by decide)
    | 41, hj => exact absurd hj (by decide)
    | 42, hj => exact absurd hj (by decide)
    | 43, hj => exact absurd hj (by decide)
    | 44, hj => exact absurd hj (by decide)
    | 45, hj => exact absurd hj (by decide)
    | _ + 46, _ => trivial
   ·refine ⟨?_, ?_, ?_, ?_, ?_, ?_, ?_, ?_, ?_, ?_, ?_, ?_, ?_, ?_, ?_, ?_, ?_, ?_, ?_, ?_, ?_, ?_, ?_, ?_, ?_, ?_, ?_, ?_, ?_, ?_, ?_, ?_, ?_, ?_, ?_, ?_, ?_, ?_, ?_, ?_, ?_, ?_, ?_, ?_, ?_, ?_, trivial⟩
    ·intro xq w1 hb1 hx K hK0
     have hK := fun v w' hb => hK0 v w' (.inl hb)
     clear hx hKc hK0
     have hg1 := Hgr.out.up hb1
     obtain ⟨kg0, kg1, kg2⟩ := hg1.c3
     simp only [runOf, setSlot, HRL.out, sr, Nat.reduceAdd, Nat.reduceEqDiff, if_true, if_false] at hK ⊢
     go_wp2_with (fail)
     exact hK _ _ (Below.refl _ _) rfl
    ·intro xq w1 hb1 hx K hK0
     have hK := fun v w' hb => hK0 v w' (.inl hb)
     clear hx hKc hK0
     simp only [runOf, setSlot, HRL.out, sr, Nat.reduceAdd, Nat.reduceEqDiff, if_true, if_false] at hK ⊢
     go_wp2_with (fail)
     exact hK _ _ (Below.refl _ _) rfl
    ·intro xq w1 hb1 hx K hK0
     have hK := fun v w' hb => hK0 v w' (.inl hb)
     have e187 : xq 187 = .pointer (some ⟨w2.heap.size + 1, 2, none⟩) := hx 1 (by rfl) (by rfl)
     clear hx hKc hK0
     have kc2 : w1.cell? ⟨w2.heap.size + 1, 2, none⟩ = some (.slice H hs.length q) := (Hcr.out.up hb1).cell 2
     simp only [runOf, setSlot, HRL.out, sr, Nat.reduceAdd, Nat.reduceEqDiff, if_true, if_false] at hK ⊢
     simp only [e187] at hK ⊢
     clear e187
     go_wp2_with (fail)
     exact hK _ _ (Below.refl _ _) rfl
    ·intro xq w1 hb1 hx K hK0
     have hK := fun v w' hb => hK0 v w' (.inl hb)
     clear hx hKc hK0
     simp only [runOf, setSlot, HRL.out, sr, Nat.reduceAdd, Nat.reduceEqDiff, if_true, if_false] at hK ⊢
     go_wp2_with (fail)
     exact hK _ _ (Below.refl _ _) rfl
    ·intro xq w1 hb1 hx K hK0
     have hK := fun v w' hb => hK0 v w' (.inl hb)
     clear hx hKc hK0
     simp only [runOf, setSlot, HRL.out, sr, Nat.reduceAdd, Nat.reduceEqDiff, if_true, if_false] at hK ⊢
     go_wp2_with (fail)
     exact hK _ _ (Below.refl _ _) rfl
    ·intro xq w1 hb1 hx K hK0
     have hK := fun v w' hb => hK0 v w' (.inl hb)
     have e190 : xq 190 = .int .i64 (k : Int) := hx 4 (by rfl) (by rfl)
     clear hx hKc hK0
     simp only [runOf, setSlot, HRL.out, sr, Nat.reduceAdd, Nat.reduceEqDiff, if_true, if_false] at hK ⊢
     simp only [e190] at hK ⊢
     clear e190
     go_wp2_with (fail)
     exact hK _ _ (Below.refl _ _) rfl
    ·intro xq w1 hb1 hx K hK0
     have hK := fun v w' hb => hK0 v w' (.inl hb)
     have e191 : xq 191 = .pointer (some ⟨w4.heap.size, k * 2, none⟩) := hx 5 (by rfl) (by rfl)
     clear hx hKc hK0
     simp only [runOf, setSlot, HRL.out, sr, Nat.reduceAdd, Nat.reduceEqDiff, if_true, if_false] at hK ⊢
     simp only [e191] at hK ⊢
     clear e191
     go_wp2_with (fail)
     exact hK _ _ (Below.refl _ _) rfl
    ·intro xq w1 hb1 hx K hK0
     have hK := fun v w' hb => hK0 v w' (.inl hb)
     have e192 : xq 192 = .pointer (some ⟨w4.heap.size, k * 2, none⟩) := hx 6 (by rfl) (by rfl)
     clear hx hKc hK0
     have kb : w1.cell? ⟨w4.heap.size, k * 2, none⟩ = some (.int .i64 lk) := by rw [HLK.out]; exact cell8_lo (Hbr.out.up hb1) hk4
     simp only [runOf, setSlot, HRL.out, sr, Nat.reduceAdd, Nat.reduceEqDiff, if_true, if_false] at hK ⊢
     simp only [e192] at hK ⊢
     clear e192
     go_wp2_with (fail)
     exact hK _ _ (Below.refl _ _) rfl
    ·intro xq w1 hb1 hx K hK0
     have hK := fun v w' hb => hK0 v w' (.inl hb)
     have e186 : xq 186 = .agg #[.int .i64 err, .int .i64 miss, .slice G gs.length d] := hx 0 (by rfl) (by rfl)
     have e188 : xq 188 = .slice H hs.length q := hx 2 (by rfl) (by rfl)
     have e189 : xq 189 = .int .i64 (k : Int) := hx 3 (by rfl) (by rfl)
     have e193 : xq 193 = .int .i64 lk := hx 7 (by rfl) (by rfl)
     clear hx hKc hK0
     simp only [runOf, setSlot, HRL.out, sr, Nat.reduceAdd, Nat.reduceEqDiff, if_true, if_false] at hK ⊢
     simp only [e186, e188, e189, e193] at hK ⊢
     clear e186 e188 e189 e193
     go_wp2_with (go_at_call 68; refine Calls.mono (some_any err miss G gs.length d H q hs k hk4 lk ⟨by omega, by omega⟩ i0 i2 _ (HH.out.up (HBr.out.trans (hb1.mono hszr2))) hhl' HTK.out) ?_; intro e w5 hsp; obtain ⟨rfl, hb5⟩ := some_in HOK.out HBX.out HBK.out HBT.out hk4 (Int.le_of_eq HLK.out.symm) (Int.le_trans HLU.out (Int.le_of_eq HUK.out)) hsp; clear hsp)
     exact hK _ _ hb5 rfl
    ·intro xq w1 hb1 hx K hK0
     have hK := fun v w' hb => hK0 v w' (.inl hb)
     have e194 : xq 194 = .bool true := hx 8 (by rfl) (by rfl)
     clear hx hKc hK0
     simp only [runOf, setSlot, HRL.out, sr, Nat.reduceAdd, Nat.reduceEqDiff, if_true, if_false] at hK ⊢
     simp only [e194] at hK ⊢
     clear e194
     go_wp2_with (fail)
     exact hK _ _ (Below.refl _ _) rfl
    ·intro xq w1 hb1 hx K hK0
     have hK := fun v w' hb => hK0 v w' (.inl hb)
     have e195 : xq 195 = .bool false := hx 9 (by rfl) (by rfl)
     clear hx hKc hK0
     simp only [runOf, setSlot, HRL.out, sr, Nat.reduceAdd, Nat.reduceEqDiff, if_true, if_false] at hK ⊢
     simp only [e195] at hK ⊢
     clear e195
     go_wp2_with (fail)
     exact hK _ _ (Below.refl _ _) rfl
    ·intro xq w1 hb1 hx K hK0
     have hK := fun v w' hb => hK0 v w' (.inl hb)
     have e196 : xq 196 = .bool false := hx 10 (by rfl) (by rfl)
     clear hx hKc hK0
     have hg1 := Hgr.out.up hb1
     obtain ⟨kg0, kg1, kg2⟩ := hg1.c3
     simp only [runOf, setSlot, HRL.out, sr, Nat.reduceAdd, Nat.reduceEqDiff, if_true, if_false] at hK ⊢
     simp only [e196] at hK ⊢
     clear e196
     go_wp2_with (fail)
     exact hK _ _ (Below.refl _ _) rfl
    ·intro xq w1 hb1 hx K hK0
     have hK := fun v w' hb => hK0 v w' (.inl hb)
     have e196 : xq 196 = .bool false := hx 10 (by rfl) (by rfl)
     clear hx hKc hK0
     simp only [runOf, setSlot, HRL.out, sr, Nat.reduceAdd, Nat.reduceEqDiff, if_true, if_false] at hK ⊢
     simp only [e196] at hK ⊢
     clear e196
     go_wp2_with (fail)
     exact hK _ _ (Below.refl _ _) rfl
    ·intro xq w1 hb1 hx K hK0
     have hK := fun v w' hb => hK0 v w' (.inl hb)
     have e196 : xq 196 = .bool false := hx 10 (by rfl) (by rfl)
     have e198 : xq 198 = .pointer (some ⟨w2.heap.size + 1, 2, none⟩) := hx 12 (by rfl) (by rfl)
     clear hx hKc hK0
     have kc2 : w1.cell? ⟨w2.heap.size + 1, 2, none⟩ = some (.slice H hs.length q) := (Hcr.out.up hb1).cell 2
     simp only [runOf, setSlot, HRL.out, sr, Nat.reduceAdd, Nat.reduceEqDiff, if_true, if_false] at hK ⊢
     simp only [e196, e198] at hK ⊢
     clear e196 e198
     go_wp2_with (fail)
     exact hK _ _ (Below.refl _ _) rfl
    ·intro xq w1 hb1 hx K hK0
     have hK := fun v w' hb => hK0 v w' (.inl hb)
     have e196 : xq 196 = .bool false := hx 10 (by rfl) (by rfl)
     clear hx hKc hK0
     simp only [runOf, setSlot, HRL.out, sr, Nat.reduceAdd, Nat.reduceEqDiff, if_true, if_false] at hK ⊢
     simp only [e196] at hK ⊢
     clear e196
     go_wp2_with (fail)
     exact hK _ _ (Below.refl _ _) rfl
    ·intro xq w1 hb1 hx K hK0
     have hK := fun v w' hb => hK0 v w' (.inl hb)
     have e196 : xq 196 = .bool false := hx 10 (by rfl) (by rfl)
     clear hx hKc hK0
     simp only [runOf, setSlot, HRL.out, sr, Nat.reduceAdd, Nat.reduceEqDiff, if_true, if_false] at hK ⊢
     simp only [e196] at hK ⊢
     clear e196
     go_wp2_with (fail)
     exact hK _ _ (Below.refl _ _) rfl
    ·intro xq w1 hb1 hx K hK0
     have hK := fun v w' hb => hK0 v w' (.inl hb)
     have e196 : xq 196 = .bool false := hx 10 (by rfl) (by rfl)
     have e201 : xq 201 = .int .i64 (k : Int) := hx 15 (by rfl) (by rfl)
     clear hx hKc hK0
     simp only [runOf, setSlot, HRL.out, sr, Nat.reduceAdd, Nat.reduceEqDiff, if_true, if_false] at hK ⊢
     simp only [e196, e201] at hK ⊢
     clear e196 e201
     go_wp2_with (fail)
     exact hK _ _ (Below.refl _ _) rfl
    ·intro xq w1 hb1 hx K hK0
     have hK := fun v w' hb => hK0 v w' (.inl hb)
     have e196 : xq 196 = .bool false := hx 10 (by rfl) (by rfl)
     have e202 : xq 202 = .pointer (some ⟨w4.heap.size, k * 2, none⟩) := hx 16 (by rfl) (by rfl)
     clear hx hKc hK0
     simp only [runOf, setSlot, HRL.out, sr, Nat.reduceAdd, Nat.reduceEqDiff, if_true, if_false] at hK ⊢
     simp only [e196, e202] at hK ⊢
     clear e196 e202
     go_wp2_with (fail)
     exact hK _ _ (Below.refl _ _) rfl
    ·intro xq w1 hb1 hx K hK0
     have hK := fun v w' hb => hK0 v w' (.inl hb)
     have e196 : xq 196 = .bool false := hx 10 (by rfl) (by rfl)
     have e203 : xq 203 = .pointer (some ⟨w4.heap.size, k * 2 + 1, none⟩) := hx 17 (by rfl) (by rfl)
     clear hx hKc hK0
     have kb : w1.cell? ⟨w4.heap.size, k * 2 + 1, none⟩ = some (.int .i64 uk) := by rw [HUK.out]; exact cell8_hi (Hbr.out.up hb1) hk4
     simp only [runOf, setSlot, HRL.out, sr, Nat.reduceAdd, Nat.reduceEqDiff, if_true, if_false] at hK ⊢
     simp only [e196, e203] at hK ⊢
     clear e196 e203
     go_wp2_with (fail)
     exact hK _ _ (Below.refl _ _) rfl
    ·intro xq w1 hb1 hx K hK0
     have hK := fun v w' hb => hK0 v w' (.inl hb)
     have e196 : xq 196 = .bool false := hx 10 (by rfl) (by rfl)
     have e197 : xq 197 = .agg #[.int .i64 err, .int .i64 miss, .slice G gs.length d] := hx 11 (by rfl) (by rfl)
     have e199 : xq 199 = .slice H hs.length q := hx 13 (by rfl) (by rfl)
     have e200 : xq 200 = .int .i64 (k : Int) := hx 14 (by rfl) (by rfl)
     have e204 : xq 204 = .int .i64 uk := hx 18 (by rfl) (by rfl)
     clear hx hKc hK0
     simp only [runOf, setSlot, HRL.out, sr, Nat.reduceAdd, Nat.reduceEqDiff, if_true, if_false] at hK ⊢
     simp only [e196, e197, e199, e200, e204] at hK ⊢
     clear e196 e197 e199 e200 e204
     go_wp2_with (go_at_call 68; refine Calls.mono (some_any err miss G gs.length d H q hs k hk4 uk ⟨by omega, by omega⟩ i0 i2 _ (HH.out.up (HBr.out.trans (hb1.mono hszr2))) hhl' HTK.out) ?_; intro e w5 hsp; obtain ⟨rfl, hb5⟩ := some_in HOK.out HBX.out HBK.out HBT.out hk4 (Int.le_trans (Int.le_of_eq HLK.out.symm) HLU.out) (Int.le_of_eq HUK.out) hsp; clear hsp)
     exact hK _ _ hb5 rfl
    ·intro xq w1 hb1 hx K hK0
     have hK := fun v w' hb => hK0 v w' (.inl hb)
     have e196 : xq 196 = .bool false := hx 10 (by rfl) (by rfl)
     have e205 : xq 205 = .bool true := hx 19 (by rfl) (by rfl)
     clear hx hKc hK0
     simp only [runOf, setSlot, HRL.out, sr, Nat.reduceAdd, Nat.reduceEqDiff, if_true, if_false] at hK ⊢
     simp only [e196, e205] at hK ⊢
     clear e196 e205
     go_wp2_with (fail)
     exact hK _ _ (Below.refl _ _) rfl
    ·intro xq w1 hb1 hx K hK0
     have hK := fun v w' hb => hK0 v w' (.inl hb)
     have e196 : xq 196 = .bool false := hx 10 (by rfl) (by rfl)
     have e206 : xq 206 = .bool false := hx 20 (by rfl) (by rfl)
     clear hx hKc hK0
     simp only [runOf, setSlot, HRL.out, sr, Nat.reduceAdd, Nat.reduceEqDiff, if_true, if_false] at hK ⊢
     simp only [e196, e206] at hK ⊢
     clear e196 e206
     go_wp2_with (fail)
     exact hK _ _ (Below.refl _ _) rfl
    ·intro xq w1 hb1 hx K hK0
     have hK := fun v w' hb => hK0 v w' (.inl hb)
     have e207 : xq 207 = .bool false := hx 21 (by rfl) (by rfl)
     clear hx hKc hK0
     simp only [runOf, setSlot, HRL.out, sr, Nat.reduceAdd, Nat.reduceEqDiff, if_true, if_false] at hK ⊢
     simp only [e207] at hK ⊢
     clear e207
     go_wp2_with (fail)
     exact hK _ _ (Below.refl _ _) rfl
    ·intro xq w1 hb1 hx K hK0
     have hK := fun v w' hb => hK0 v w' (.inl hb)
     have e208 : xq 208 = .bool false := hx 22 (by rfl) (by rfl)
     clear hx hKc hK0
     have hg1 := Hgr.out.up hb1
     obtain ⟨kg0, kg1, kg2⟩ := hg1.c3
     simp only [runOf, setSlot, HRL.out, sr, Nat.reduceAdd, Nat.reduceEqDiff, if_true, if_false] at hK ⊢
     simp only [e208] at hK ⊢
     clear e208
     go_wp2_with (fail)
     exact hK _ _ (Below.refl _ _) rfl
    ·intro xq w1 hb1 hx K hK0
     have hK := fun v w' hb => hK0 v w' (.inl hb)
     have e208 : xq 208 = .bool false := hx 22 (by rfl) (by rfl)
     clear hx hKc hK0
     simp only [runOf, setSlot, HRL.out, sr, Nat.reduceAdd, Nat.reduceEqDiff, if_true, if_false] at hK ⊢
     simp only [e208] at hK ⊢
     clear e208
     go_wp2_with (fail)
     exact hK _ _ (Below.refl _ _) rfl
    ·intro xq w1 hb1 hx K hK0
     have hK := fun v w' hb => hK0 v w' (.inl hb)
     have e208 : xq 208 = .bool false := hx 22 (by rfl) (by rfl)
     have e210 : xq 210 = .pointer (some ⟨w2.heap.size + 1, 2, none⟩) := hx 24 (by rfl) (by rfl)
     clear hx hKc hK0
     have kc2 : w1.cell? ⟨w2.heap.size + 1, 2, none⟩ = some (.slice H hs.length q) := (Hcr.out.up hb1).cell 2
     simp only [runOf, setSlot, HRL.out, sr, Nat.reduceAdd, Nat.reduceEqDiff, if_true, if_false] at hK ⊢
     simp only [e208, e210] at hK ⊢
     clear e208 e210
     go_wp2_with (fail)
     exact hK _ _ (Below.refl _ _) rfl
    ·intro xq w1 hb1 hx K hK0
     have hK := fun v w' hb => hK0 v w' (.inl hb)
     have e208 : xq 208 = .bool false := hx 22 (by rfl) (by rfl)
     clear hx hKc hK0
     simp only [runOf, setSlot, HRL.out, sr, Nat.reduceAdd, Nat.reduceEqDiff, if_true, if_false] at hK ⊢
     simp only [e208] at hK ⊢
     clear e208
     go_wp2_with (fail)
     exact hK _ _ (Below.refl _ _) rfl
    ·intro xq w1 hb1 hx K hK0
     have hK := fun v w' hb => hK0 v w' (.inl hb)
     have e208 : xq 208 = .bool false := hx 22 (by rfl) (by rfl)
     clear hx hKc hK0
     simp only [runOf, setSlot, HRL.out, sr, Nat.reduceAdd, Nat.reduceEqDiff, if_true, if_false] at hK ⊢
     simp only [e208] at hK ⊢
     clear e208
     go_wp2_with (fail)
     exact hK _ _ (Below.refl _ _) rfl
    ·intro xq w1 hb1 hx K hK0
     have hK := fun v w' hb => hK0 v w' (.inl hb)
     have e208 : xq 208 = .bool false := hx 22 (by rfl) (by rfl)
     have e213 : xq 213 = .int .i64 (k : Int) := hx 27 (by rfl) (by rfl)
     clear hx hKc hK0
     simp only [runOf, setSlot, HRL.out, sr, Nat.reduceAdd, Nat.reduceEqDiff, if_true, if_false] at hK ⊢
     simp only [e208, e213] at hK ⊢
     clear e208 e213
     go_wp2_with (fail)
     exact hK _ _ (Below.refl _ _) rfl
    ·intro xq w1 hb1 hx K hK0
     have hK := fun v w' hb => hK0 v w' (.inl hb)
     have e208 : xq 208 = .bool false := hx 22 (by rfl) (by rfl)
     have e214 : xq 214 = .pointer (some ⟨w4.heap.size, k * 2, none⟩) := hx 28 (by rfl) (by rfl)
     clear hx hKc hK0
     simp only [runOf, setSlot, HRL.out, sr, Nat.reduceAdd, Nat.reduceEqDiff, if_true, if_false] at hK ⊢
     simp only [e208, e214] at hK ⊢
     clear e208 e214
     go_wp2_with (fail)
     exact hK _ _ (Below.refl _ _) rfl
    ·intro xq w1 hb1 hx K hK0
     have hK := fun v w' hb => hK0 v w' (.inl hb)
     have e208 : xq 208 = .bool false := hx 22 (by rfl) (by rfl)
     have e215 : xq 215 = .pointer (some ⟨w4.heap.size, k * 2, none⟩) := hx 29 (by rfl) (by rfl)
     clear hx hKc hK0
     have kb : w1.cell? ⟨w4.heap.size, k * 2, none⟩ = some (.int .i64 lk) := by rw [HLK.out]; exact cell8_lo (Hbr.out.up hb1) hk4
     simp only [runOf, setSlot, HRL.out, sr, Nat.reduceAdd, Nat.reduceEqDiff, if_true, if_false] at hK ⊢
     simp only [e208, e215] at hK ⊢
     clear e208 e215
     go_wp2_with (fail)
     exact hK _ _ (Below.refl _ _) rfl
    ·intro xq w1 hb1 hx K hK0
     have hK := fun v w' hb => hK0 v w' (.inl hb)
     have e208 : xq 208 = .bool false := hx 22 (by rfl) (by rfl)
     have e216 : xq 216 = .int .i64 lk := hx 30 (by rfl) (by rfl)
     clear hx hKc hK0
     simp only [runOf, setSlot, HRL.out, sr, Nat.reduceAdd, Nat.reduceEqDiff, if_true, if_false] at hK ⊢
     simp only [e208, e216] at hK ⊢
     clear e208 e216
     go_wp2_with (fail)
     exact hK _ _ (Below.refl _ _) rfl
    ·intro xq w1 hb1 hx K hK0
     have hK := fun v w' hb => hK0 v w' (.inl hb)
     have e208 : xq 208 = .bool false := hx 22 (by rfl) (by rfl)
     have e209 : xq 209 = .agg #[.int .i64 err, .int .i64 miss, .slice G gs.length d] := hx 23 (by rfl) (by rfl)
     have e211 : xq 211 = .slice H hs.length q := hx 25 (by rfl) (by rfl)
     have e212 : xq 212 = .int .i64 (k : Int) := hx 26 (by rfl) (by rfl)
     have e217 : xq 217 = .int .i64 (lk - 1) := hx 31 (by rfl) (by rfl)
     clear hx hKc hK0
     simp only [runOf, setSlot, HRL.out, sr, Nat.reduceAdd, Nat.reduceEqDiff, if_true, if_false] at hK ⊢
     simp only [e208, e209, e211, e212, e217] at hK ⊢
     clear e208 e209 e211 e212 e217
     go_wp2_with (go_at_call 68; refine Calls.mono (some_any err miss G gs.length d H q hs k hk4 (lk - 1) ⟨by omega, by omega⟩ i0 i2 _ (HH.out.up (HBr.out.trans (hb1.mono hszr2))) hhl' HTK.out) ?_; intro e w5 hsp; obtain ⟨rfl, hb5⟩ := some_out HOK.out HBX.out hk4 (.inl (by have := HLK.out; omega)) hsp; clear hsp)
     exact hK _ _ hb5 rfl
    ·intro xq w1 hb1 hx K hK0
     have hK := fun v w' hb => hK0 v w' (.inl hb)
     have e208 : xq 208 = .bool false := hx 22 (by rfl) (by rfl)
     have e218 : xq 218 = .bool false := hx 32 (by rfl) (by rfl)
     clear hx hKc hK0
     simp only [runOf, setSlot, HRL.out, sr, Nat.reduceAdd, Nat.reduceEqDiff, if_true, if_false] at hK ⊢
     simp only [e208, e218] at hK ⊢
     clear e208 e218
     go_wp2_with (fail)
     exact hK _ _ (Below.refl _ _) rfl
    ·intro xq w1 hb1 hx K hK0
     have hK := fun v w' hb => hK0 v w' (.inl hb)
     have e219 : xq 219 = .bool false := hx 33 (by rfl) (by rfl)
     clear hx hKc hK0
     simp only [runOf, setSlot, HRL.out, sr, Nat.reduceAdd, Nat.reduceEqDiff, if_true, if_false] at hK ⊢
     simp only [e219] at hK ⊢
     clear e219
     go_wp2_with (fail)
     exact hK _ _ (Below.refl _ _) rfl
    ·intro xq w1 hb1 hx K hK0
     have hK := fun v w' hb => hK0 v w' (.inl hb)
     have e220 : xq 220 = .bool false := hx 34 (by rfl) (by rfl)
     clear hx hKc hK0
     have hg1 := Hgr.out.up hb1
     obtain ⟨kg0, kg1, kg2⟩ := hg1.c3
     simp only [runOf, setSlot, HRL.out, sr, Nat.reduceAdd, Nat.reduceEqDiff, if_true, if_false] at hK ⊢
     simp only [e220] at hK ⊢
     clear e220
     go_wp2_with (fail)
     exact hK _ _ (Below.refl _ _) rfl
    ·intro xq w1 hb1 hx K hK0
     have hK := fun v w' hb => hK0 v w' (.inl hb)
     have e220 : xq 220 = .bool false := hx 34 (by rfl) (by rfl)
     clear hx hKc hK0
     simp only [runOf, setSlot, HRL.out, sr, Nat.reduceAdd, Nat.reduceEqDiff, if_true, if_false] at hK ⊢
     simp only [e220] at hK ⊢
     clear e220
     go_wp2_with (fail)
     exact hK _ _ (Below.refl _ _) rfl
    ·intro xq w1 hb1 hx K hK0
     have hK := fun v w' hb => hK0 v w' (.inl hb)
     have e220 : xq 220 = .bool false := hx 34 (by rfl) (by rfl)
     have e222 : xq 222 = .pointer (some ⟨w2.heap.size + 1, 2, none⟩) := hx 36 (by rfl) (by rfl)
     clear hx hKc hK0
     have kc2 : w1.cell? ⟨w2.heap.size + 1, 2, none⟩ = some (.slice H hs.length q) := (Hcr.out.up hb1).cell 2
     simp only [runOf, setSlot, HRL.out, sr, Nat.reduceAdd, Nat.reduceEqDiff, if_true, if_false] at hK ⊢
     simp only [e220, e222] at hK ⊢
     clear e220 e222
     go_wp2_with (fail)
     exact hK _ _ (Below.refl _ _) rfl
    ·intro xq w1 hb1 hx K hK0
     have hK := fun v w' hb => hK0 v w' (.inl hb)
     have e220 : xq 220 = .bool false := hx 34 (by rfl) (by rfl)
     clear hx hKc hK0
     simp only [runOf, setSlot, HRL.out, sr, Nat.reduceAdd, Nat.reduceEqDiff, if_true, if_false] at hK ⊢
     simp only [e220] at hK ⊢
     clear e220
     go_wp2_with (fail)
     exact hK _ _ (Below.refl _ _) rfl
    ·intro xq w1 hb1 hx K hK0
     have hK := fun v w' hb => hK0 v w' (.inl hb)
     have e220 : xq 220 = .bool false := hx 34 (by rfl) (by rfl)
     clear hx hKc hK0
     simp only [runOf, setSlot, HRL.out, sr, Nat.reduceAdd, Nat.reduceEqDiff, if_true, if_false] at hK ⊢
     simp only [e220] at hK ⊢
     clear e220
     go_wp2_with (fail)
     exact hK _ _ (Below.refl _ _) rfl
    ·intro xq w1 hb1 hx K hK0
     have hK := fun v w' hb => hK0 v w' (.inl hb)
     have e220 : xq 220 = .bool false := hx 34 (by rfl) (by rfl)
     have e225 : xq 225 = .int .i64 (k : Int) := hx 39 (by rfl) (by rfl)
     clear hx hKc hK0
     simp only [runOf, setSlot, HRL.out, sr, Nat.reduceAdd, Nat.reduceEqDiff, if_true, if_false] at hK ⊢
     simp only [e220, e225] at hK ⊢
     clear e220 e225
     go_wp2_with (fail)
     exact hK _ _ (Below.refl _ _) rfl
    ·intro xq w1 hb1 hx K hK0
     have hK := fun v w' hb => hK0 v w' (.inl hb)
     have e220 : xq 220 = .bool false := hx 34 (by rfl) (by rfl)
     have e226 : xq 226 = .pointer (some ⟨w4.heap.size, k * 2, none⟩) := hx 40 (by rfl) (by rfl)
     clear hx hKc hK0
     simp only [runOf, setSlot, HRL.out, sr, Nat.reduceAdd, Nat.reduceEqDiff, if_true, if_false] at hK ⊢
     simp only [e220, e226] at hK ⊢
     clear e220 e226
     go_wp2_with (fail)
     exact hK _ _ (Below.refl _ _) rfl
    ·intro xq w1 hb1 hx K hK0
     have hK := fun v w' hb => hK0 v w' (.inl hb)
     have e220 : xq 220 = .bool false := hx 34 (by rfl) (by rfl)
     have e227 : xq 227 = .pointer (some ⟨w4.heap.size, k * 2 + 1, none⟩) := hx 41 (by rfl) (by rfl)
     clear hx hKc hK0
     have kb : w1.cell? ⟨w4.heap.size, k * 2 + 1, none⟩ = some (.int .i64 uk) := by rw [HUK.out]; exact cell8_hi (Hbr.out.up hb1) hk4
     simp only [runOf, setSlot, HRL.out, sr, Nat.reduceAdd, Nat.reduceEqDiff, if_true, if_false] at hK ⊢
     simp only [e220, e227] at hK ⊢
     clear e220 e227
     go_wp2_with (fail)
     exact hK _ _ (Below.refl _ _) rfl
    ·intro xq w1 hb1 hx K hK0
     have hK := fun v w' hb => hK0 v w' (.inl hb)
     have e220 : xq 220 = .bool false := hx 34 (by rfl) (by rfl)
     have e228 : xq 228 = .int .i64 uk := hx 42 (by rfl) (by rfl)
     clear hx hKc hK0
     simp only [runOf, setSlot, HRL.out, sr, Nat.reduceAdd, Nat.reduceEqDiff, if_true, if_false] at hK ⊢
     simp only [e220, e228] at hK ⊢
     clear e220 e228
     go_wp2_with (fail)
     exact hK _ _ (Below.refl _ _) rfl
    ·intro xq w1 hb1 hx K hK0
     have hK := fun v w' hb => hK0 v w' (.inl hb)
     have e220 : xq 220 = .bool false := hx 34 (by rfl) (by rfl)
     have e221 : xq 221 = .agg #[.int .i64 err, .int .i64 miss, .slice G gs.length d] := hx 35 (by rfl) (by rfl)
     have e223 : xq 223 = .slice H hs.length q := hx 37 (by rfl) (by rfl)
     have e224 : xq 224 = .int .i64 (k : Int) := hx 38 (by rfl) (by rfl)
     have e229 : xq 229 = .int .i64 (uk + 1) := hx 43 (by rfl) (by rfl)
     clear hx hKc hK0
     simp only [runOf, setSlot, HRL.out, sr, Nat.reduceAdd, Nat.reduceEqDiff, if_true, if_false] at hK ⊢
     simp only [e220, e221, e223, e224, e229] at hK ⊢
     clear e220 e221 e223 e224 e229
     go_wp2_with (go_at_call 68; refine Calls.mono (some_any err miss G gs.length d H q hs k hk4 (uk + 1) ⟨by omega, by omega⟩ i0 i2 _ (HH.out.up (HBr.out.trans (hb1.mono hszr2))) hhl' HTK.out) ?_; intro e w5 hsp; obtain ⟨rfl, hb5⟩ := some_out HOK.out HBX.out hk4 (.inr (by have := HUK.out; omega)) hsp; clear hsp)
     exact hK _ _ hb5 rfl
    ·intro xq w1 hb1 hx K hK0
     have hK := fun v w' hb => hK0 v w' (.inl hb)
     have e220 : xq 220 = .bool false := hx 34 (by rfl) (by rfl)
     have e230 : xq 230 = .bool false := hx 44 (by rfl) (by rfl)
     clear hx hKc hK0
     simp only [runOf, setSlot, HRL.out, sr, Nat.reduceAdd, Nat.reduceEqDiff, if_true, if_false] at hK ⊢
     simp only [e220, e230] at hK ⊢
     clear e220 e230
     go_wp2_with (fail)
     exact hK _ _ (Below.refl _ _) rfl
   ·intro xq w1 hb1 hx
    have e186 : xq 186 = .agg #[.int .i64 err, .int .i64 miss, .slice G gs.length d] := hx 0 (by decide)
    have e187 : xq 187 = .pointer (some ⟨w2.heap.size + 1, 2, none⟩) := hx 1 (by decide)
    have e188 : xq 188 = .slice H hs.length q := hx 2 (by decide)
    have e189 : xq 189 = .int .i64 (k : Int) := hx 3 (by decide)
    have e190 : xq 190 = .int .i64 (k : Int) := hx 4 (by decide)
    have e191 : xq 191 = .pointer (some ⟨w4.heap.size, k * 2, none⟩) := hx 5 (by decide)
    have e192 : xq 192 = .pointer (some ⟨w4.heap.size, k * 2, none⟩) := hx 6 (by decide)
    have e193 : xq 193 = .int .i64 lk := hx 7 (by decide)
    have e194 : xq 194 = .bool true := hx 8 (by decide)
    have e195 : xq 195 = .bool false := hx 9 (by decide)
    have e196 : xq 196 = .bool false := hx 10 (by decide)
    have e197 : xq 197 = .agg #[.int .i64 err, .int .i64 miss, .slice G gs.length d] := hx 11 (by decide)
    have e198 : xq 198 = .pointer (some ⟨w2.heap.size + 1, 2, none⟩) := hx 12 (by decide)
    have e199 : xq 199 = .slice H hs.length q := hx 13 (by decide)
    have e200 : xq 200 = .int .i64 (k : Int) := hx 14 (by decide)
    have e201 : xq 201 = .int .i64 (k : Int) := hx 15 (by decide)
    have e202 : xq 202 = .pointer (some ⟨w4.heap.size, k * 2, none⟩) := hx 16 (by decide)
    have e203 : xq 203 = .pointer (some ⟨w4.heap.size, k * 2 + 1, none⟩) := hx 17 (by decide)
    have e204 : xq 204 = .int .i64 uk := hx 18 (by decide)
    have e205 : xq 205 = .bool true := hx 19 (by decide)
    have e206 : xq 206 = .bool false := hx 20 (by decide)
    have e207 : xq 207 = .bool false := hx 21 (by decide)
    have e208 : xq 208 = .bool false := hx 22 (by decide)
    have e209 : xq 209 = .agg #[.int .i64 err, .int .i64 miss, .slice G gs.length d] := hx 23 (by decide)
    have e210 : xq 210 = .pointer (some ⟨w2.heap.size + 1, 2, none⟩) := hx 24 (by decide)
    have e211 : xq 211 = .slice H hs.length q := hx 25 (by decide)
    have e212 : xq 212 = .int .i64 (k : Int) := hx 26 (by decide)
    have e213 : xq 213 = .int .i64 (k : Int) := hx 27 (by decide)
    have e214 : xq 214 = .pointer (some ⟨w4.heap.size, k * 2, none⟩) := hx 28 (by decide)
    have e215 : xq 215 = .pointer (some ⟨w4.heap.size, k * 2, none⟩) := hx 29 (by decide)
    have e216 : xq 216 = .int .i64 lk := hx 30 (by decide)
    have e217 : xq 217 = .int .i64 (lk - 1) := hx 31 (by decide)
    have e218 : xq 218 = .bool false := hx 32 (by decide)
    have e219 : xq 219 = .bool false := hx 33 (by decide)
    have e220 : xq 220 = .bool false := hx 34 (by decide)
    have e221 : xq 221 = .agg #[.int .i64 err, .int .i64 miss, .slice G gs.length d] := hx 35 (by decide)
    have e222 : xq 222 = .pointer (some ⟨w2.heap.size + 1, 2, none⟩) := hx 36 (by decide)
    have e223 : xq 223 = .slice H hs.length q := hx 37 (by decide)
    have e224 : xq 224 = .int .i64 (k : Int) := hx 38 (by decide)
    have e225 : xq 225 = .int .i64 (k : Int) := hx 39 (by decide)
    have e226 : xq 226 = .pointer (some ⟨w4.heap.size, k * 2, none⟩) := hx 40 (by decide)
    have e227 : xq 227 = .pointer (some ⟨w4.heap.size, k * 2 + 1, none⟩) := hx 41 (by decide)
    have e228 : xq 228 = .int .i64 uk := hx 42 (by decide)
    have e229 : xq 229 = .int .i64 (uk + 1) := hx 43 (by decide)
    have e230 : xq 230 = .bool false := hx 44 (by decide)
    have e231 : xq 231 = .bool false := hx 45 (by decide)
    clear hx
    simp only [runOf, setSlot, HRL.out, sr, Nat.reduceAdd, Nat.reduceEqDiff, if_true, if_false]
    simp only [e186, e187, e188, e189, e190, e191, e192, e193, e194, e195, e196, e197, e198, e199, e200, e201, e202, e203, e204, e205, e206, e207, e208, e209, e210, e211, e212, e213, e214, e215, e216, e217, e218, e219, e220, e221, e222, e223, e224, e225, e226, e227, e228, e229, e230, e231]
    clear e186 e187 e188 e189 e190 e191 e192 e193 e194 e195 e196 e197 e198 e199 e200 e201 e202 e203 e204 e205 e206 e207 e208 e209 e210 e211 e212 e213 e214 e215 e216 e217 e218 e219 e220 e221 e222 e223 e224 e225 e226 e227 e228 e229 e230 e231
    refine hKc _ _ ?_
    have HBs : Hid (Below w2.heap.size w2 w1) := Lib.hid (HBr.out.trans (hb1.mono hszr2))
    have hszs := HBs.out.size
    have hs1 := hb1.size
    have HC6s : Hid (IntsAt w1 L can) := Lib.hid (ints_at (((HOW.out.up HC12.out).grown HGr.out (by omega)).up hb1))
    have Hgs := Lib.hid (Hgr.out.up hb1)
    have Hcs := Lib.hid (Hcr.out.up hb1)
    clear hb1
    go_wp2_with fail
    go_loopw [26] (fun v26 w9 => ∃ j : Nat, v26 = .int .i64 ((j : Int) - 1) ∧ j ≤ gs.length + 1 ∧ Below w1.heap.size w1 w9) (fun v26 _ => (gs.length - intOf v26).toNat)
    case atStart => exact ⟨0, rfl, by omega, Below.refl _ _⟩
    case round =>
     obtain ⟨j, rfl, hjl, hl⟩ := hrel
     have HLL := Lib.hid hl
     have hszl := hl.size
     clear hl
     have HBn := Lib.hid (HBs.out.trans (HLL.out.mono hszs))
     have hszn := HBn.out.size
     have HC6n : Hid (IntsAt _ L can) := Lib.hid (HC6s.out.up HLL.out)
     have Hgn := Lib.hid (Hgs.out.up HLL.out)
     have Hcn := Lib.hid (Hcs.out.up HLL.out)
     obtain ⟨kg0, kg1, kg2⟩ := Hgn.out.c3
     have lt_g : w2.heap.size < wr.heap.size := Hgn.out.lt
     obtain ⟨kc0, kc1, kc2⟩ := Hcn.out.c3
     have lt_c : w2.heap.size + 1 < wr.heap.size := Hcn.out.lt
     by_cases hj : j ≤ gs.length
     ·have hjn : (j : Int) - 1 < gs.length := by omega
      cases hsh : shownBx B gs (ix j) with
      | some bb =>
       have HCJ : Hid (can.contains ((j : Int) - 1) = true) := Lib.hid (by rw [← HCAN.out, can_has B hj, hsh]; rfl)
       go_wp2_with fail
       refine (Show_some err miss full emp G H d q gs hs _ (HG.out.up (HBn.out.trans zg)) hgl4 hgd (HH.out.up (HBn.out.trans zg)) hhl6 HE.out HX.out j hj bb (by rw [HBX.out]; exact hsh)).mono ?_
       have hok' := shown_ok HOK.out HBX.out HBK.out hj hsh
       obtain ⟨s0, hs0⟩ : ∃ z, z = bb.l0 + bb.t0 := ⟨_, rfl⟩
       obtain ⟨s1, hs1⟩ : ∃ z, z = bb.l1 + bb.t1 := ⟨_, rfl⟩
       obtain ⟨s2, hs2⟩ : ∃ z, z = bb.l2 + bb.t2 := ⟨_, rfl⟩
       obtain ⟨s3, hs3⟩ : ∃ z, z = bb.l3 + bb.t3 := ⟨_, rfl⟩
       rw [← hs0, ← hs1, ← hs2, ← hs3] at hok' ⊢
       have HMS := Lib.hid hok'.mix
       have HFS := Lib.hid hok'.fit
       have HGS := Lib.hid hok'.gr
       clear hs0 hs1 hs2 hs3 hok' hsh
       rintro e w10 ⟨rfl, hb10⟩
       have Hg10 := Lib.hid (Hgn.out.up hb10)
       have Hc10 := Lib.hid (Hcn.out.up hb10)
       have HB10 : Hid (Below w1.heap.size w1 w10) := Lib.hid (HLL.out.trans (hb10.mono hszl))
       have HBm := Lib.hid (HBs.out.trans (HB10.out.mono hszs))
       have hszm := HBm.out.size
       have HC6m : Hid (IntsAt w10 L can) := Lib.hid (HC6n.out.up hb10)
       have hsz10 := HB10.out.size
       clear hb10 kg0 kg1 kg2 lt_g kc0 kc1 kc2 lt_c
       obtain ⟨kg0, kg1, kg2⟩ := Hg10.out.c3
       have lt_g : w2.heap.size < w10.heap.size := Hg10.out.lt
       obtain ⟨kc0, kc1, kc2⟩ := Hc10.out.c3
       have lt_c : w2.heap.size + 1 < w10.heap.size := Hc10.out.lt
       go_wp2_with fail
       refine (Contains_any L lc can ((j : Int) - 1) _ (HC6m.out.up zg) (by omega)).mono ?_
       rw [HCJ.out]
       rintro e wv ⟨rfl, rfl⟩
       go_wp2_with fail
       refine (right_any s0 s1 s2 s3 HMS.out _).mono ?_
       rintro e w30 ⟨rfl, hb30⟩
       have Hg30 := Lib.hid (Holds.up (by have h := Hg10.out; exact zp4 : Holds _ (w2.heap.size) 24 #[.int .i64 err, .int .i64 miss, .slice G gs.length d]) hb30)
       have Hc30 := Lib.hid (Holds.up (by have h := Hc10.out; exact zp4 : Holds _ (w2.heap.size + 1) 27 #[.int .i64 full, .int .i64 emp, .slice H hs.length q]) hb30)
       have Hs930 := Lib.hid (Holds.up (by exact zp4 : Holds _ (w10.heap.size) 28 #[.int .i64 s0, .int .i64 s1, .int .i64 s2, .int .i64 s3]) hb30)
       have HN30 : Hid (Below w10.heap.size w10 w30) := Lib.hid (Below.trans zg (hb30.mono (by first | exact Nat.le_refl _ | omega | (simp; done) | (simp; omega))))
       have hsn30 := HN30.out.size
       clear hb30
       clear kg0 kg1 kg2 lt_g kc0 kc1 kc2 lt_c
       obtain ⟨kg0, kg1, kg2⟩ := Hg30.out.c3
       have lt_g : w2.heap.size < w30.heap.size := Hg30.out.lt
       obtain ⟨kc0, kc1, kc2⟩ := Hc30.out.c3
       have lt_c : w2.heap.size + 1 < w30.heap.size := Hc30.out.lt
       obtain ⟨ks90, ks91, ks92, ks93⟩ := Hs930.out.c4
       have lt_s9 : w10.heap.size < w30.heap.size := Hs930.out.lt
       go_wp2_with fail
       refine (fits_any err miss G gs.length d H q hs s0 s1 s2 s3 ⟨HMS.out.p0, mix_le0 HMS.out⟩ ⟨HMS.out.p1, mix_le1 HMS.out⟩ ⟨HMS.out.p2, mix_le2 HMS.out⟩ ⟨HMS.out.p3, mix_le3 HMS.out⟩ i0 i2 _ (HH.out.up (HBm.out.trans ((HN30.out.mono hszm).trans zg))) hhl' HTK.out).mono ?_
       rw [HFS.out]
       rintro e w31 ⟨rfl, hb31⟩
       have Hg31 := Lib.hid (Holds.up (by have h := Hg30.out; exact zp4 : Holds _ (w2.heap.size) 24 #[.int .i64 err, .int .i64 miss, .slice G gs.length d]) hb31)
       have Hc31 := Lib.hid (Holds.up (by have h := Hc30.out; exact zp4 : Holds _ (w2.heap.size + 1) 27 #[.int .i64 full, .int .i64 emp, .slice H hs.length q]) hb31)
       have Hs931 := Lib.hid (Holds.up (by have h := Hs930.out; exact zp4 : Holds _ (w10.heap.size) 28 #[.int .i64 s0, .int .i64 s1, .int .i64 s2, .int .i64 s3]) hb31)
       have HN31 : Hid (Below w10.heap.size w10 w31) := Lib.hid (HN30.out.trans (Below.trans zg (hb31.mono (by first | exact Nat.le_refl _ | omega | (simp; done) | (simp; omega)))))
       have hsn31 := HN31.out.size
       clear hb31
       clear kg0 kg1 kg2 lt_g kc0 kc1 kc2 lt_c ks90 ks91 ks92 ks93 lt_s9
       obtain ⟨kg0, kg1, kg2⟩ := Hg31.out.c3
       have lt_g : w2.heap.size < w31.heap.size := Hg31.out.lt
       obtain ⟨kc0, kc1, kc2⟩ := Hc31.out.c3
       have lt_c : w2.heap.size + 1 < w31.heap.size := Hc31.out.lt
       obtain ⟨ks90, ks91, ks92, ks93⟩ := Hs931.out.c4
       have lt_s9 : w10.heap.size < w31.heap.size := Hs931.out.lt
       go_wp2_with fail
       refine (has_any err miss G d gs s0 s1 s2 s3 _ (HG.out.up (HBm.out.trans ((HN31.out.mono hszm).trans zg))) hgl').mono ?_
       rw [HGS.out]
       rintro e w32 ⟨rfl, hb32⟩
       have Hg32 := Lib.hid (Holds.up (by have h := Hg31.out; exact zp4 : Holds _ (w2.heap.size) 24 #[.int .i64 err, .int .i64 miss, .slice G gs.length d]) hb32)
       have Hc32 := Lib.hid (Holds.up (by have h := Hc31.out; exact zp4 : Holds _ (w2.heap.size + 1) 27 #[.int .i64 full, .int .i64 emp, .slice H hs.length q]) hb32)
       have Hs932 := Lib.hid (Holds.up (by have h := Hs931.out; exact zp4 : Holds _ (w10.heap.size) 28 #[.int .i64 s0, .int .i64 s1, .int .i64 s2, .int .i64 s3]) hb32)
       have HN32 : Hid (Below w10.heap.size w10 w32) := Lib.hid (HN31.out.trans (Below.trans zg (hb32.mono (by first | exact Nat.le_refl _ | omega | (simp; done) | (simp; omega)))))
       have hsn32 := HN32.out.size
       clear hb32
       clear kg0 kg1 kg2 lt_g kc0 kc1 kc2 lt_c ks90 ks91 ks92 ks93 lt_s9
       go_wp2_with fail
       go_roundw
       case rel => exact ⟨j + 1, by go_num, by omega, HB10.out.trans (HN32.out.mono hsz10)⟩
       case measure => first | (simp [intOf]; done) | (simp [intOf]; omega)
      | none =>
       have HCJ : Hid (can.contains ((j : Int) - 1) = false) := Lib.hid (by rw [← HCAN.out, can_has B hj, hsh]; rfl)
       go_wp2_with fail
       refine (Show_none err miss full emp G H d q gs hs _ (HG.out.up (HBn.out.trans zg)) hgl4 hgd (HH.out.up (HBn.out.trans zg)) hhl6 HE.out HX.out j hj (by rw [HBX.out]; exact hsh)).mono ?_
       clear hsh
       rintro e w10 ⟨rfl, hb10⟩
       have Hg10 := Lib.hid (Hgn.out.up hb10)
       have Hc10 := Lib.hid (Hcn.out.up hb10)
       have HB10 : Hid (Below w1.heap.size w1 w10) := Lib.hid (HLL.out.trans (hb10.mono hszl))
       have HBm := Lib.hid (HBs.out.trans (HB10.out.mono hszs))
       have hszm := HBm.out.size
       have HC6m : Hid (IntsAt w10 L can) := Lib.hid (HC6n.out.up hb10)
       have hsz10 := HB10.out.size
       clear hb10 kg0 kg1 kg2 lt_g kc0 kc1 kc2 lt_c
       obtain ⟨kg0, kg1, kg2⟩ := Hg10.out.c3
       have lt_g : w2.heap.size < w10.heap.size := Hg10.out.lt
       obtain ⟨kc0, kc1, kc2⟩ := Hc10.out.c3
       have lt_c : w2.heap.size + 1 < w10.heap.size := Hc10.out.lt
       go_wp2_with fail
       refine (Contains_any L lc can ((j : Int) - 1) _ (HC6m.out.up zg) (by omega)).mono ?_
       rw [HCJ.out]
       rintro e wv ⟨rfl, rfl⟩
       go_wp2_with fail
       go_roundw
       case rel => exact ⟨j + 1, by go_num, by omega, HB10.out.trans zg⟩
       case measure => first | (simp [intOf]; done) | (simp [intOf]; omega)
     ·have hje : j = gs.length + 1 := by omega
      have hjn : ¬ ((j : Int) - 1 < gs.length) := by omega
      go_wp2_with fail
      refine (awake_any _).mono ?_
      rintro e w11 ⟨rfl, hb11⟩
      go_wp2_with fail
      go_ret
      exact ⟨rfl, HB2.out.trans ((HBn.out.trans (hb11.mono hszn)).mono hz2)⟩
end Go.Proofs.Ytigkcillgniolaa
