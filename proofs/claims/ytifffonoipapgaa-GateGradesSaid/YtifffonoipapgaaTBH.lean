import Derived.Laws.BitsLemmas
import Derived.Laws.AppendOwn
import Derived.Test.YtifffonoipapgaaTAA
import Derived.Test.YtifffonoipapgaaTAC
import Derived.Test.YtifffonoipapgaaTAU
import Derived.Test.YtifffonoipapgaaTAX
import Derived.Test.YtifffonoipapgaaTAZ
import Derived.Test.YtifffonoipapgaaTBE
import Derived.Test.YtifffonoipapgaaTBF
import Derived.Test.YtifffonoipapgaaTBG
set_option linter.unusedSimpArgs false
set_option linter.unusedVariables false
namespace Go.Proofs.Ytifffonoipapgaa
open Go.RowKit
theorem eq_spans (w : World) : (binOp .eql 76 (.agg #[.int .i64 31, .int .i64 32, .int .i64 4, .int .i64 5, .int .i64 0, .int .i64 2, .int .i64 2, .int .i64 4]) (.agg #[.int .i64 31, .int .i64 32, .int .i64 4, .int .i64 5, .int .i64 0, .int .i64 2, .int .i64 2, .int .i64 4])).run Try.prog w = .ok (.bool true) w := by kernel_rfl
theorem zp5 {p : Prop} (h : p := by (repeat first | (with_reducible first | assumption | apply Holds.set3 | apply Holds.set2 | apply Holds.set8 | apply Holds.set4 | apply Holds.putL | ((refine Holds.new' _ _ ?_); (simp; done)) | refine Holds.alloc ?_ _ | refine Holds.drew ?_ | refine Holds.far ?_ (by simp only [ne_eq]; omega) _) | rfl)) : p := h
set_option maxRecDepth 100000 in
set_option maxHeartbeats 8000000 in
theorem awake_any (w : World) : Calls Try.prog 16 #[] w fun e w' => e = .returned (.bool true) ∧ Below w.heap.size w w' := by
 have hq := eq_spans
 go_enter Try.func16, Try.ntmps16
 go_wp2_with (first
  | ((go_at_call 79); (with_reducible show Calls _ _ #[.slice _ 2 _] _ _); (refine (three2 (some ⟨_, 0, none⟩) 2 _ (ints_block zp5 (by rfl))).mono ?_); (rintro e w1 ⟨G1, A1, d1, rfl, hg1, ha1, hb1⟩); (have HB1 : Hid (Below w.heap.size w w1) := Lib.hid (Below.trans zg (hb1.mono (by first | omega | (simp; done) | (simp; omega))))); (have HxG1 := Lib.hid hg1); (have HxA1 := Lib.hid ha1); (clear hb1))
  | ((go_at_call 79); (with_reducible show Calls _ _ #[.slice _ 3 _] _ _); (refine (three3 (some ⟨_, 0, none⟩) 3 _ (ints_block zp5 (by rfl))).mono ?_); (rintro e w2 ⟨G2, A2, d2, rfl, hg2, ha2, hb2⟩); (have HB2 : Hid (Below w1.heap.size w1 w2) := Lib.hid (Below.trans zg (hb2.mono (by first | omega | (simp; done) | (simp; omega))))); (have Hxbg1 : Hid (Holds w2 (w1.heap.size) 24 #[.int .i64 5, .int .i64 2, .slice G1 3 3]) := Lib.hid (Holds.up (zp5 : Holds _ (w1.heap.size) 24 #[.int .i64 5, .int .i64 2, .slice G1 3 3]) hb2)); (have Hxbc1 : Hid (Holds w2 (w1.heap.size + 1) 27 #[.int .i64 1200, .int .i64 300, .slice A1 2 d1]) := Lib.hid (Holds.up (zp5 : Holds _ (w1.heap.size + 1) 27 #[.int .i64 1200, .int .i64 300, .slice A1 2 d1]) hb2)); (replace HxG1 := Lib.hid (HxG1.out.up HB2.out)); (replace HxA1 := Lib.hid (HxA1.out.up HB2.out)); (have HxA2 := Lib.hid ha2); (obtain ⟨kbg10_2, kbg11_2, kbg12_2⟩ := Hxbg1.out.c3); (have lbg1_2 : w1.heap.size < w2.heap.size := Hxbg1.out.lt); (obtain ⟨kbc10_2, kbc11_2, kbc12_2⟩ := Hxbc1.out.c3); (have lbc1_2 : w1.heap.size + 1 < w2.heap.size := Hxbc1.out.lt); (clear hb2))
  | ((go_at_call 79); (with_reducible show Calls _ _ #[.slice _ 1 _] _ _); (refine (three1 (some ⟨_, 0, none⟩) 1 _ (ints_block zp5 (by rfl))).mono ?_); (rintro e w3 ⟨G3, A3, d3, rfl, hg3, ha3, hb3⟩); (have HB3 : Hid (Below w2.heap.size w2 w3) := Lib.hid (Below.trans zg (hb3.mono (by first | omega | (simp; done) | (simp; omega))))); (have Hxbc2 : Hid (Holds w3 (w2.heap.size + 1) 27 #[.int .i64 1200, .int .i64 300, .slice A2 3 d2]) := Lib.hid (Holds.up (zp5 : Holds _ (w2.heap.size + 1) 27 #[.int .i64 1200, .int .i64 300, .slice A2 3 d2]) hb3)); (replace Hxbg1 := Lib.hid (Hxbg1.out.up HB3.out)); (replace Hxbc1 := Lib.hid (Hxbc1.out.up HB3.out)); (replace HxG1 := Lib.hid (HxG1.out.up HB3.out)); (replace HxA1 := Lib.hid (HxA1.out.up HB3.out)); (replace HxA2 := Lib.hid (HxA2.out.up HB3.out)); (have HxA3 := Lib.hid ha3); (obtain ⟨kbg10_3, kbg11_3, kbg12_3⟩ := Hxbg1.out.c3); (have lbg1_3 : w1.heap.size < w3.heap.size := Hxbg1.out.lt); (obtain ⟨kbc10_3, kbc11_3, kbc12_3⟩ := Hxbc1.out.c3); (have lbc1_3 : w1.heap.size + 1 < w3.heap.size := Hxbc1.out.lt); (obtain ⟨kbc20_3, kbc21_3, kbc22_3⟩ := Hxbc2.out.c3); (have lbc2_3 : w2.heap.size + 1 < w3.heap.size := Hxbc2.out.lt); (clear hb3); (clear kbg10_2 kbg11_2 kbg12_2 kbc10_2 kbc11_2 kbc12_2 lbg1_2 lbc1_2))
  | ((go_at_call 37); (refine (net3 G1 A1 3 d1 _ (HxG1.out.up zg) (HxA1.out.up zg)).mono ?_); (rintro e w4 ⟨rfl, hb4⟩); (have HB4 : Hid (Below w3.heap.size w3 w4) := Lib.hid (Below.trans zg (hb4.mono (by first | omega | (simp; done) | (simp; omega))))); (have Hxbc3 : Hid (Holds w4 (w3.heap.size + 1) 27 #[.int .i64 1200, .int .i64 300, .slice A3 1 d3]) := Lib.hid (Holds.up (zp5 : Holds _ (w3.heap.size + 1) 27 #[.int .i64 1200, .int .i64 300, .slice A3 1 d3]) hb4)); (replace Hxbg1 := Lib.hid (Hxbg1.out.up HB4.out)); (replace Hxbc1 := Lib.hid (Hxbc1.out.up HB4.out)); (replace Hxbc2 := Lib.hid (Hxbc2.out.up HB4.out)); (replace HxG1 := Lib.hid (HxG1.out.up HB4.out)); (replace HxA1 := Lib.hid (HxA1.out.up HB4.out)); (replace HxA2 := Lib.hid (HxA2.out.up HB4.out)); (replace HxA3 := Lib.hid (HxA3.out.up HB4.out)); (obtain ⟨kbg10_4, kbg11_4, kbg12_4⟩ := Hxbg1.out.c3); (have lbg1_4 : w1.heap.size < w4.heap.size := Hxbg1.out.lt); (obtain ⟨kbc10_4, kbc11_4, kbc12_4⟩ := Hxbc1.out.c3); (have lbc1_4 : w1.heap.size + 1 < w4.heap.size := Hxbc1.out.lt); (obtain ⟨kbc20_4, kbc21_4, kbc22_4⟩ := Hxbc2.out.c3); (have lbc2_4 : w2.heap.size + 1 < w4.heap.size := Hxbc2.out.lt); (obtain ⟨kbc30_4, kbc31_4, kbc32_4⟩ := Hxbc3.out.c3); (have lbc3_4 : w3.heap.size + 1 < w4.heap.size := Hxbc3.out.lt); (clear hb4); (clear kbg10_3 kbg11_3 kbg12_3 kbc10_3 kbc11_3 kbc12_3 kbc20_3 kbc21_3 kbc22_3 lbg1_3 lbc1_3 lbc2_3))
  | ((go_at_call 43); (refine (bounds3 G1 A1 3 d1 _ (HxG1.out.up zg) (HxA1.out.up zg)).mono ?_); (rintro e w5 ⟨rfl, hb5⟩); (have HB5 : Hid (Below w4.heap.size w4 w5) := Lib.hid (Below.trans zg (hb5.mono (by first | omega | (simp; done) | (simp; omega))))); (have Hxbn : Hid (Holds w5 (w4.heap.size) 60 #[.int .i64 890, .int .i64 910]) := Lib.hid (Holds.up (zp5 : Holds _ (w4.heap.size) 60 #[.int .i64 890, .int .i64 910]) hb5)); (replace Hxbg1 := Lib.hid (Hxbg1.out.up HB5.out)); (replace Hxbc1 := Lib.hid (Hxbc1.out.up HB5.out)); (replace Hxbc2 := Lib.hid (Hxbc2.out.up HB5.out)); (replace Hxbc3 := Lib.hid (Hxbc3.out.up HB5.out)); (replace HxG1 := Lib.hid (HxG1.out.up HB5.out)); (replace HxA1 := Lib.hid (HxA1.out.up HB5.out)); (replace HxA2 := Lib.hid (HxA2.out.up HB5.out)); (replace HxA3 := Lib.hid (HxA3.out.up HB5.out)); (obtain ⟨kbg10_5, kbg11_5, kbg12_5⟩ := Hxbg1.out.c3); (have lbg1_5 : w1.heap.size < w5.heap.size := Hxbg1.out.lt); (obtain ⟨kbc10_5, kbc11_5, kbc12_5⟩ := Hxbc1.out.c3); (have lbc1_5 : w1.heap.size + 1 < w5.heap.size := Hxbc1.out.lt); (obtain ⟨kbc20_5, kbc21_5, kbc22_5⟩ := Hxbc2.out.c3); (have lbc2_5 : w2.heap.size + 1 < w5.heap.size := Hxbc2.out.lt); (obtain ⟨kbc30_5, kbc31_5, kbc32_5⟩ := Hxbc3.out.c3); (have lbc3_5 : w3.heap.size + 1 < w5.heap.size := Hxbc3.out.lt); (obtain ⟨kbn0_5, kbn1_5⟩ := Hxbn.out.c2); (have lbn_5 : w4.heap.size < w5.heap.size := Hxbn.out.lt); (clear hb5); (clear kbg10_4 kbg11_4 kbg12_4 kbc10_4 kbc11_4 kbc12_4 kbc20_4 kbc21_4 kbc22_4 kbc30_4 kbc31_4 kbc32_4 lbg1_4 lbc1_4 lbc2_4 lbc3_4))
  | ((go_at_call 59); (refine (sure3 G1 A1 3 d1 _ (HxG1.out.up zg) (by decide) (HxA1.out.up zg)).mono ?_); (rintro e w6 ⟨rfl, hb6⟩); (have HB6 : Hid (Below w5.heap.size w5 w6) := Lib.hid (Below.trans zg (hb6.mono (by first | omega | (simp; done) | (simp; omega))))); (have Hxbb : Hid (Holds w6 (w5.heap.size) 76 #[.int .i64 31, .int .i64 32, .int .i64 4, .int .i64 5, .int .i64 0, .int .i64 2, .int .i64 2, .int .i64 4]) := Lib.hid (Holds.up (zp5 : Holds _ (w5.heap.size) 76 #[.int .i64 31, .int .i64 32, .int .i64 4, .int .i64 5, .int .i64 0, .int .i64 2, .int .i64 2, .int .i64 4]) hb6)); (replace Hxbg1 := Lib.hid (Hxbg1.out.up HB6.out)); (replace Hxbc1 := Lib.hid (Hxbc1.out.up HB6.out)); (replace Hxbc2 := Lib.hid (Hxbc2.out.up HB6.out)); (replace Hxbc3 := Lib.hid (Hxbc3.out.up HB6.out)); (replace Hxbn := Lib.hid (Hxbn.out.up HB6.out)); (replace HxG1 := Lib.hid (HxG1.out.up HB6.out)); (replace HxA1 := Lib.hid (HxA1.out.up HB6.out)); (replace HxA2 := Lib.hid (HxA2.out.up HB6.out)); (replace HxA3 := Lib.hid (HxA3.out.up HB6.out)); (obtain ⟨kbg10_6, kbg11_6, kbg12_6⟩ := Hxbg1.out.c3); (have lbg1_6 : w1.heap.size < w6.heap.size := Hxbg1.out.lt); (obtain ⟨kbc10_6, kbc11_6, kbc12_6⟩ := Hxbc1.out.c3); (have lbc1_6 : w1.heap.size + 1 < w6.heap.size := Hxbc1.out.lt); (obtain ⟨kbc20_6, kbc21_6, kbc22_6⟩ := Hxbc2.out.c3); (have lbc2_6 : w2.heap.size + 1 < w6.heap.size := Hxbc2.out.lt); (obtain ⟨kbc30_6, kbc31_6, kbc32_6⟩ := Hxbc3.out.c3); (have lbc3_6 : w3.heap.size + 1 < w6.heap.size := Hxbc3.out.lt); (obtain ⟨kbn0_6, kbn1_6⟩ := Hxbn.out.c2); (have lbn_6 : w4.heap.size < w6.heap.size := Hxbn.out.lt); (obtain ⟨kbb0_6, kbb1_6, kbb2_6, kbb3_6, kbb4_6, kbb5_6, kbb6_6, kbb7_6⟩ := Hxbb.out.c8); (have lbb_6 : w5.heap.size < w6.heap.size := Hxbb.out.lt); (clear hb6); (clear kbg10_5 kbg11_5 kbg12_5 kbc10_5 kbc11_5 kbc12_5 kbc20_5 kbc21_5 kbc22_5 kbc30_5 kbc31_5 kbc32_5 kbn0_5 kbn1_5 lbg1_5 lbc1_5 lbc2_5 lbc3_5 lbn_5))
  | ((go_at_call 61); (refine (pay3 G1 A1 3 d1 _ (HxG1.out.up zg) (by decide) (HxA1.out.up zg)).mono ?_); (rintro e w7 ⟨rfl, hb7⟩); (have HB7 : Hid (Below w6.heap.size w6 w7) := Lib.hid (Below.trans zg (hb7.mono (by first | omega | (simp; done) | (simp; omega))))); (replace Hxbg1 := Lib.hid (Hxbg1.out.up HB7.out)); (replace Hxbc1 := Lib.hid (Hxbc1.out.up HB7.out)); (replace Hxbc2 := Lib.hid (Hxbc2.out.up HB7.out)); (replace Hxbc3 := Lib.hid (Hxbc3.out.up HB7.out)); (replace Hxbn := Lib.hid (Hxbn.out.up HB7.out)); (replace Hxbb := Lib.hid (Hxbb.out.up HB7.out)); (replace HxG1 := Lib.hid (HxG1.out.up HB7.out)); (replace HxA1 := Lib.hid (HxA1.out.up HB7.out)); (replace HxA2 := Lib.hid (HxA2.out.up HB7.out)); (replace HxA3 := Lib.hid (HxA3.out.up HB7.out)); (obtain ⟨kbg10_7, kbg11_7, kbg12_7⟩ := Hxbg1.out.c3); (have lbg1_7 : w1.heap.size < w7.heap.size := Hxbg1.out.lt); (obtain ⟨kbc10_7, kbc11_7, kbc12_7⟩ := Hxbc1.out.c3); (have lbc1_7 : w1.heap.size + 1 < w7.heap.size := Hxbc1.out.lt); (obtain ⟨kbc20_7, kbc21_7, kbc22_7⟩ := Hxbc2.out.c3); (have lbc2_7 : w2.heap.size + 1 < w7.heap.size := Hxbc2.out.lt); (obtain ⟨kbc30_7, kbc31_7, kbc32_7⟩ := Hxbc3.out.c3); (have lbc3_7 : w3.heap.size + 1 < w7.heap.size := Hxbc3.out.lt); (obtain ⟨kbn0_7, kbn1_7⟩ := Hxbn.out.c2); (have lbn_7 : w4.heap.size < w7.heap.size := Hxbn.out.lt); (obtain ⟨kbb0_7, kbb1_7, kbb2_7, kbb3_7, kbb4_7, kbb5_7, kbb6_7, kbb7_7⟩ := Hxbb.out.c8); (have lbb_7 : w5.heap.size < w7.heap.size := Hxbb.out.lt); (clear hb7); (clear kbg10_6 kbg11_6 kbg12_6 kbc10_6 kbc11_6 kbc12_6 kbc20_6 kbc21_6 kbc22_6 kbc30_6 kbc31_6 kbc32_6 kbn0_6 kbn1_6 kbb0_6 kbb1_6 kbb2_6 kbb3_6 kbb4_6 kbb5_6 kbb6_6 kbb7_6 lbg1_6 lbc1_6 lbc2_6 lbc3_6 lbn_6 lbb_6))
  | ((go_at_call 52); (refine (clash3 G1 A2 3 d2 _ (HxG1.out.up zg) (HxA2.out.up zg)).mono ?_); (rintro e w8 ⟨L8, e8, rfl, hl8, hb8⟩); (have HB8 : Hid (Below w7.heap.size w7 w8) := Lib.hid (Below.trans zg (hb8.mono (by first | omega | (simp; done) | (simp; omega))))); (have Hxbp : Hid (Holds w8 (w7.heap.size) 60 #[.int .i64 6230, .int .i64 6370]) := Lib.hid (Holds.up (zp5 : Holds _ (w7.heap.size) 60 #[.int .i64 6230, .int .i64 6370]) hb8)); (replace Hxbg1 := Lib.hid (Hxbg1.out.up HB8.out)); (replace Hxbc1 := Lib.hid (Hxbc1.out.up HB8.out)); (replace Hxbc2 := Lib.hid (Hxbc2.out.up HB8.out)); (replace Hxbc3 := Lib.hid (Hxbc3.out.up HB8.out)); (replace Hxbn := Lib.hid (Hxbn.out.up HB8.out)); (replace Hxbb := Lib.hid (Hxbb.out.up HB8.out)); (replace HxG1 := Lib.hid (HxG1.out.up HB8.out)); (replace HxA1 := Lib.hid (HxA1.out.up HB8.out)); (replace HxA2 := Lib.hid (HxA2.out.up HB8.out)); (replace HxA3 := Lib.hid (HxA3.out.up HB8.out)); (have HxL8 := Lib.hid hl8); (obtain ⟨kbg10_8, kbg11_8, kbg12_8⟩ := Hxbg1.out.c3); (have lbg1_8 : w1.heap.size < w8.heap.size := Hxbg1.out.lt); (obtain ⟨kbc10_8, kbc11_8, kbc12_8⟩ := Hxbc1.out.c3); (have lbc1_8 : w1.heap.size + 1 < w8.heap.size := Hxbc1.out.lt); (obtain ⟨kbc20_8, kbc21_8, kbc22_8⟩ := Hxbc2.out.c3); (have lbc2_8 : w2.heap.size + 1 < w8.heap.size := Hxbc2.out.lt); (obtain ⟨kbc30_8, kbc31_8, kbc32_8⟩ := Hxbc3.out.c3); (have lbc3_8 : w3.heap.size + 1 < w8.heap.size := Hxbc3.out.lt); (obtain ⟨kbn0_8, kbn1_8⟩ := Hxbn.out.c2); (have lbn_8 : w4.heap.size < w8.heap.size := Hxbn.out.lt); (obtain ⟨kbb0_8, kbb1_8, kbb2_8, kbb3_8, kbb4_8, kbb5_8, kbb6_8, kbb7_8⟩ := Hxbb.out.c8); (have lbb_8 : w5.heap.size < w8.heap.size := Hxbb.out.lt); (obtain ⟨kbp0_8, kbp1_8⟩ := Hxbp.out.c2); (have lbp_8 : w7.heap.size < w8.heap.size := Hxbp.out.lt); (clear hb8); (clear kbg10_7 kbg11_7 kbg12_7 kbc10_7 kbc11_7 kbc12_7 kbc20_7 kbc21_7 kbc22_7 kbc30_7 kbc31_7 kbc32_7 kbn0_7 kbn1_7 kbb0_7 kbb1_7 kbb2_7 kbb3_7 kbb4_7 kbb5_7 kbb6_7 kbb7_7 lbg1_7 lbc1_7 lbc2_7 lbc3_7 lbn_7 lbb_7))
  | ((go_at_call 53); (refine (topped3 G1 A2 3 d2 _ (HxG1.out.up zg) (HxA2.out.up zg)).mono ?_); (rintro e w9 ⟨rfl, hb9⟩); (have HB9 : Hid (Below w8.heap.size w8 w9) := Lib.hid (Below.trans zg (hb9.mono (by first | omega | (simp; done) | (simp; omega))))); (replace Hxbg1 := Lib.hid (Hxbg1.out.up HB9.out)); (replace Hxbc1 := Lib.hid (Hxbc1.out.up HB9.out)); (replace Hxbc2 := Lib.hid (Hxbc2.out.up HB9.out)); (replace Hxbc3 := Lib.hid (Hxbc3.out.up HB9.out)); (replace Hxbn := Lib.hid (Hxbn.out.up HB9.out)); (replace Hxbb := Lib.hid (Hxbb.out.up HB9.out)); (replace Hxbp := Lib.hid (Hxbp.out.up HB9.out)); (replace HxG1 := Lib.hid (HxG1.out.up HB9.out)); (replace HxA1 := Lib.hid (HxA1.out.up HB9.out)); (replace HxA2 := Lib.hid (HxA2.out.up HB9.out)); (replace HxA3 := Lib.hid (HxA3.out.up HB9.out)); (replace HxL8 := Lib.hid (HxL8.out.up HB9.out)); (obtain ⟨kbg10_9, kbg11_9, kbg12_9⟩ := Hxbg1.out.c3); (have lbg1_9 : w1.heap.size < w9.heap.size := Hxbg1.out.lt); (obtain ⟨kbc10_9, kbc11_9, kbc12_9⟩ := Hxbc1.out.c3); (have lbc1_9 : w1.heap.size + 1 < w9.heap.size := Hxbc1.out.lt); (obtain ⟨kbc20_9, kbc21_9, kbc22_9⟩ := Hxbc2.out.c3); (have lbc2_9 : w2.heap.size + 1 < w9.heap.size := Hxbc2.out.lt); (obtain ⟨kbc30_9, kbc31_9, kbc32_9⟩ := Hxbc3.out.c3); (have lbc3_9 : w3.heap.size + 1 < w9.heap.size := Hxbc3.out.lt); (obtain ⟨kbn0_9, kbn1_9⟩ := Hxbn.out.c2); (have lbn_9 : w4.heap.size < w9.heap.size := Hxbn.out.lt); (obtain ⟨kbb0_9, kbb1_9, kbb2_9, kbb3_9, kbb4_9, kbb5_9, kbb6_9, kbb7_9⟩ := Hxbb.out.c8); (have lbb_9 : w5.heap.size < w9.heap.size := Hxbb.out.lt); (obtain ⟨kbp0_9, kbp1_9⟩ := Hxbp.out.c2); (have lbp_9 : w7.heap.size < w9.heap.size := Hxbp.out.lt); (clear hb9); (clear kbg10_8 kbg11_8 kbg12_8 kbc10_8 kbc11_8 kbc12_8 kbc20_8 kbc21_8 kbc22_8 kbc30_8 kbc31_8 kbc32_8 kbn0_8 kbn1_8 kbb0_8 kbb1_8 kbb2_8 kbb3_8 kbb4_8 kbb5_8 kbb6_8 kbb7_8 kbp0_8 kbp1_8 lbg1_8 lbc1_8 lbc2_8 lbc3_8 lbn_8 lbb_8 lbp_8))
  | ((go_at_call 58); (refine (can3 G1 A3 3 d3 _ (HxG1.out.up zg) (by decide) (HxA3.out.up zg)).mono ?_); (rintro e w10 ⟨L10, e10, rfl, hl10, hb10⟩); (have HB10 : Hid (Below w9.heap.size w9 w10) := Lib.hid (Below.trans zg (hb10.mono (by first | omega | (simp; done) | (simp; omega))))); (replace Hxbg1 := Lib.hid (Hxbg1.out.up HB10.out)); (replace Hxbc1 := Lib.hid (Hxbc1.out.up HB10.out)); (replace Hxbc2 := Lib.hid (Hxbc2.out.up HB10.out)); (replace Hxbc3 := Lib.hid (Hxbc3.out.up HB10.out)); (replace Hxbn := Lib.hid (Hxbn.out.up HB10.out)); (replace Hxbb := Lib.hid (Hxbb.out.up HB10.out)); (replace Hxbp := Lib.hid (Hxbp.out.up HB10.out)); (replace HxG1 := Lib.hid (HxG1.out.up HB10.out)); (replace HxA1 := Lib.hid (HxA1.out.up HB10.out)); (replace HxA2 := Lib.hid (HxA2.out.up HB10.out)); (replace HxA3 := Lib.hid (HxA3.out.up HB10.out)); (replace HxL8 := Lib.hid (HxL8.out.up HB10.out)); (have HxL10 := Lib.hid hl10); (obtain ⟨kbg10_10, kbg11_10, kbg12_10⟩ := Hxbg1.out.c3); (have lbg1_10 : w1.heap.size < w10.heap.size := Hxbg1.out.lt); (obtain ⟨kbc10_10, kbc11_10, kbc12_10⟩ := Hxbc1.out.c3); (have lbc1_10 : w1.heap.size + 1 < w10.heap.size := Hxbc1.out.lt); (obtain ⟨kbc20_10, kbc21_10, kbc22_10⟩ := Hxbc2.out.c3); (have lbc2_10 : w2.heap.size + 1 < w10.heap.size := Hxbc2.out.lt); (obtain ⟨kbc30_10, kbc31_10, kbc32_10⟩ := Hxbc3.out.c3); (have lbc3_10 : w3.heap.size + 1 < w10.heap.size := Hxbc3.out.lt); (obtain ⟨kbn0_10, kbn1_10⟩ := Hxbn.out.c2); (have lbn_10 : w4.heap.size < w10.heap.size := Hxbn.out.lt); (obtain ⟨kbb0_10, kbb1_10, kbb2_10, kbb3_10, kbb4_10, kbb5_10, kbb6_10, kbb7_10⟩ := Hxbb.out.c8); (have lbb_10 : w5.heap.size < w10.heap.size := Hxbb.out.lt); (obtain ⟨kbp0_10, kbp1_10⟩ := Hxbp.out.c2); (have lbp_10 : w7.heap.size < w10.heap.size := Hxbp.out.lt); (clear hb10); (clear kbg10_9 kbg11_9 kbg12_9 kbc10_9 kbc11_9 kbc12_9 kbc20_9 kbc21_9 kbc22_9 kbc30_9 kbc31_9 kbc32_9 kbn0_9 kbn1_9 kbb0_9 kbb1_9 kbb2_9 kbb3_9 kbb4_9 kbb5_9 kbb6_9 kbb7_9 kbp0_9 kbp1_9 lbg1_9 lbc1_9 lbc2_9 lbc3_9 lbn_9 lbb_9 lbp_9))
  | ((go_at_call 78); (with_reducible show Calls _ _ #[.slice _ 2 _, .slice _ 2 _] _ _); (refine (equal2 L8 (some ⟨_, 0, none⟩) e8 2 _ (HxL8.out.up zg) (ints_block zp5 (by rfl))).mono ?_); (rintro e w11 ⟨rfl, hb11⟩); (have HB11 : Hid (Below w10.heap.size w10 w11) := Lib.hid (Below.trans zg (hb11.mono (by first | omega | (simp; done) | (simp; omega))))); (replace Hxbg1 := Lib.hid (Hxbg1.out.up HB11.out)); (replace Hxbc1 := Lib.hid (Hxbc1.out.up HB11.out)); (replace Hxbc2 := Lib.hid (Hxbc2.out.up HB11.out)); (replace Hxbc3 := Lib.hid (Hxbc3.out.up HB11.out)); (replace Hxbn := Lib.hid (Hxbn.out.up HB11.out)); (replace Hxbb := Lib.hid (Hxbb.out.up HB11.out)); (replace Hxbp := Lib.hid (Hxbp.out.up HB11.out)); (replace HxG1 := Lib.hid (HxG1.out.up HB11.out)); (replace HxA1 := Lib.hid (HxA1.out.up HB11.out)); (replace HxA2 := Lib.hid (HxA2.out.up HB11.out)); (replace HxA3 := Lib.hid (HxA3.out.up HB11.out)); (replace HxL8 := Lib.hid (HxL8.out.up HB11.out)); (replace HxL10 := Lib.hid (HxL10.out.up HB11.out)); (obtain ⟨kbg10_11, kbg11_11, kbg12_11⟩ := Hxbg1.out.c3); (have lbg1_11 : w1.heap.size < w11.heap.size := Hxbg1.out.lt); (obtain ⟨kbc10_11, kbc11_11, kbc12_11⟩ := Hxbc1.out.c3); (have lbc1_11 : w1.heap.size + 1 < w11.heap.size := Hxbc1.out.lt); (obtain ⟨kbc20_11, kbc21_11, kbc22_11⟩ := Hxbc2.out.c3); (have lbc2_11 : w2.heap.size + 1 < w11.heap.size := Hxbc2.out.lt); (obtain ⟨kbc30_11, kbc31_11, kbc32_11⟩ := Hxbc3.out.c3); (have lbc3_11 : w3.heap.size + 1 < w11.heap.size := Hxbc3.out.lt); (obtain ⟨kbn0_11, kbn1_11⟩ := Hxbn.out.c2); (have lbn_11 : w4.heap.size < w11.heap.size := Hxbn.out.lt); (obtain ⟨kbb0_11, kbb1_11, kbb2_11, kbb3_11, kbb4_11, kbb5_11, kbb6_11, kbb7_11⟩ := Hxbb.out.c8); (have lbb_11 : w5.heap.size < w11.heap.size := Hxbb.out.lt); (obtain ⟨kbp0_11, kbp1_11⟩ := Hxbp.out.c2); (have lbp_11 : w7.heap.size < w11.heap.size := Hxbp.out.lt); (clear hb11); (clear kbg10_10 kbg11_10 kbg12_10 kbc10_10 kbc11_10 kbc12_10 kbc20_10 kbc21_10 kbc22_10 kbc30_10 kbc31_10 kbc32_10 kbn0_10 kbn1_10 kbb0_10 kbb1_10 kbb2_10 kbb3_10 kbb4_10 kbb5_10 kbb6_10 kbb7_10 kbp0_10 kbp1_10 lbg1_10 lbc1_10 lbc2_10 lbc3_10 lbn_10 lbb_10 lbp_10))
  | ((go_at_call 78); (with_reducible show Calls _ _ #[.slice _ 3 _, .slice _ 3 _] _ _); (refine (equal3 L10 (some ⟨_, 0, none⟩) e10 3 _ (HxL10.out.up zg) (ints_block zp5 (by rfl))).mono ?_); (rintro e w12 ⟨rfl, hb12⟩); (have HB12 : Hid (Below w11.heap.size w11 w12) := Lib.hid (Below.trans zg (hb12.mono (by first | omega | (simp; done) | (simp; omega))))); (replace Hxbg1 := Lib.hid (Hxbg1.out.up HB12.out)); (replace Hxbc1 := Lib.hid (Hxbc1.out.up HB12.out)); (replace Hxbc2 := Lib.hid (Hxbc2.out.up HB12.out)); (replace Hxbc3 := Lib.hid (Hxbc3.out.up HB12.out)); (replace Hxbn := Lib.hid (Hxbn.out.up HB12.out)); (replace Hxbb := Lib.hid (Hxbb.out.up HB12.out)); (replace Hxbp := Lib.hid (Hxbp.out.up HB12.out)); (replace HxG1 := Lib.hid (HxG1.out.up HB12.out)); (replace HxA1 := Lib.hid (HxA1.out.up HB12.out)); (replace HxA2 := Lib.hid (HxA2.out.up HB12.out)); (replace HxA3 := Lib.hid (HxA3.out.up HB12.out)); (replace HxL8 := Lib.hid (HxL8.out.up HB12.out)); (replace HxL10 := Lib.hid (HxL10.out.up HB12.out)); (obtain ⟨kbg10_12, kbg11_12, kbg12_12⟩ := Hxbg1.out.c3); (have lbg1_12 : w1.heap.size < w12.heap.size := Hxbg1.out.lt); (obtain ⟨kbc10_12, kbc11_12, kbc12_12⟩ := Hxbc1.out.c3); (have lbc1_12 : w1.heap.size + 1 < w12.heap.size := Hxbc1.out.lt); (obtain ⟨kbc20_12, kbc21_12, kbc22_12⟩ := Hxbc2.out.c3); (have lbc2_12 : w2.heap.size + 1 < w12.heap.size := Hxbc2.out.lt); (obtain ⟨kbc30_12, kbc31_12, kbc32_12⟩ := Hxbc3.out.c3); (have lbc3_12 : w3.heap.size + 1 < w12.heap.size := Hxbc3.out.lt); (obtain ⟨kbn0_12, kbn1_12⟩ := Hxbn.out.c2); (have lbn_12 : w4.heap.size < w12.heap.size := Hxbn.out.lt); (obtain ⟨kbb0_12, kbb1_12, kbb2_12, kbb3_12, kbb4_12, kbb5_12, kbb6_12, kbb7_12⟩ := Hxbb.out.c8); (have lbb_12 : w5.heap.size < w12.heap.size := Hxbb.out.lt); (obtain ⟨kbp0_12, kbp1_12⟩ := Hxbp.out.c2); (have lbp_12 : w7.heap.size < w12.heap.size := Hxbp.out.lt); (clear hb12); (clear kbg10_11 kbg11_11 kbg12_11 kbc10_11 kbc11_11 kbc12_11 kbc20_11 kbc21_11 kbc22_11 kbc30_11 kbc31_11 kbc32_11 kbn0_11 kbn1_11 kbb0_11 kbb1_11 kbb2_11 kbb3_11 kbb4_11 kbb5_11 kbb6_11 kbb7_11 kbp0_11 kbp1_11 lbg1_11 lbc1_11 lbc2_11 lbc3_11 lbn_11 lbb_11 lbp_11)))
 go_ret
 have e1 := HB1.out
 have e2 := e1.trans (HB2.out.mono e1.size)
 have e3 := e2.trans (HB3.out.mono e2.size)
 have e4 := e3.trans (HB4.out.mono e3.size)
 have e5 := e4.trans (HB5.out.mono e4.size)
 have e6 := e5.trans (HB6.out.mono e5.size)
 have e7 := e6.trans (HB7.out.mono e6.size)
 have e8 := e7.trans (HB8.out.mono e7.size)
 have e9 := e8.trans (HB9.out.mono e8.size)
 have e10 := e9.trans (HB10.out.mono e9.size)
 have e11 := e10.trans (HB11.out.mono e10.size)
 have e12 := e11.trans (HB12.out.mono e11.size)
 exact ⟨rfl, e12⟩
def BytesAt (w : World) (A : Option Addr) (n : Nat) : Prop :=
 0 < n → ∃ B o, A = some ⟨B, o, none⟩ ∧ ∀ k, k < n → ∃ b : Int, w.cell? ⟨B, o + k, none⟩ = some (.int .u8 b)
theorem BytesAt.up {w w' : World} {A : Option Addr} {n : Nat} (h : BytesAt w A n) (hb : Below w.heap.size w w') : BytesAt w' A n := fun hn => by
 obtain ⟨B, o, e, hc⟩ := h hn
 exact ⟨B, o, e, fun k hk => by obtain ⟨b, hb'⟩ := hc k hk; exact ⟨b, up_cell hb hb'⟩⟩



theorem BytesAt.grown {w w' : World} {A A' : Option Addr} {n n' c S : Nat} {x y : Int} (h : BytesAt w A n) (hS : Holds w S 172 #[.slice A' n' c, .int .i64 x, .int .u32 y]) (hg : w.grownBy w' (some S)) : BytesAt w' A n := fun hn => by
 obtain ⟨B, o, e, hc⟩ := h hn
 refine ⟨B, o, e, fun k hk => ?_⟩
 obtain ⟨b, hb⟩ := hc k hk
 refine ⟨b, hg.cell hb (fun he => ?_)⟩
 have hB : B = S := by simpa using he
 subst hB
 rw [hS.cell] at hb
 generalize o + k = q at hb
 match q, hb with
 | 0, hb => simp at hb
 | 1, hb => simp at hb
 | 2, hb => simp at hb
 | q + 3, hb => simp at hb
def gat (g0 g1 g2 g3 : Int) (k : Nat) : Int := match k with | 0 => g0 | 1 => g1 | 2 => g2 | _ => g3



theorem Holds.row {w w' : World} {B : Nat} {t : TypeId} {cs : Array Value} {ob : Option Nat} (h : Holds w B t cs) (hg : w.grownBy w' ob) (hB : ∀ k, ob = some k → B < k) : Holds w' B t cs :=
 (hg.block B h.lt (fun e => by have := hB B e.symm; omega)).trans h
theorem row5_base {w : World} {B B' n : Nat} {e : TypeId} {v : Value} {xs : List Value} (h : w.ownsRow B e 5 v n xs) (hB' : B' ≤ B) : w.ownsRow B' e 5 v n xs := by
 obtain ⟨hl, h | ⟨g, cap, cur, ev, hB, hh, r⟩⟩ := h
 ·exact ⟨hl, .inl h⟩
 ·exact ⟨hl, .inr ⟨g, cap, cur, ev, Nat.le_trans hB' hB, hh, r⟩⟩
theorem OwnHands.base {w : World} {B B' : Nat} {v : Value} {hs : List Hf} (h : OwnHands w B v hs) (hB : B' ≤ B) : OwnHands w B' v hs := row5_base h hB
theorem OwnGrades.base {w : World} {B B' : Nat} {v : Value} {gs : List Gr} (h : OwnGrades w B v gs) (hB : B' ≤ B) : OwnGrades w B' v gs := row5_base h hB
def GrB (a b c d : Int) : Prop := (10 ≤ a ∧ a ≤ 38) ∧ (1 ≤ b ∧ b ≤ 14) ∧ (0 ≤ c ∧ c ≤ 8) ∧ 1 ≤ d ∧ d ≤ 14
structure GradesOk (p : Int) (gs : List Gr) : Prop where
 p0 : 0 ≤ p
 p1 : p ≤ 100
 right : ∀ g ∈ gs, g.right = true
 last : ∀ g ∈ gs, p ≤ g.price
 falls : falls gs = true
theorem GradesOk.nil {p : Int} (h0 : 0 ≤ p) (h1 : p ≤ 100) : GradesOk p [] := ⟨h0, h1, by simp, by simp, rfl⟩
theorem falls_snoc : ∀ (gs : List Gr) (g : Gr), falls gs = true → (∀ x ∈ gs, g.price ≤ x.price) → falls (gs ++ [g]) = true
 | [], g, _, _ => rfl
 | [a], g, _, h => by
  have := h a (by simp)
  simp [falls, this]
 | a :: b :: l, g, hf, h => by
  simp only [falls, Bool.and_eq_true] at hf
  have ih := falls_snoc (b :: l) g hf.2 (fun x hx => h x (List.mem_cons_of_mem _ hx))
  simp only [List.cons_append, falls, Bool.and_eq_true]
  exact ⟨hf.1, by simpa using ih⟩
theorem GradesOk.snoc {p a b c d : Int} {gs : List Gr} (h : GradesOk p gs) (hb : GrB a b c d) : GradesOk p (gs ++ [⟨a, b, c, d, p⟩]) := by
 obtain ⟨p0, p1, hr, hl, hf⟩ := h
 obtain ⟨⟨a0, a1⟩, ⟨b0, b1⟩, ⟨c0, c1⟩, d0, d1⟩ := hb
 refine ⟨p0, p1, ?_, ?_, falls_snoc _ _ hf hl⟩
 ·intro g hg
  rcases List.mem_append.1 hg with hg | hg
  ·exact hr g hg
  ·simp only [List.mem_singleton] at hg
   subst hg
   simp only [Gr.right, within, Bool.and_eq_true, decide_eq_true_eq]
   omega
 ·intro g hg
  rcases List.mem_append.1 hg with hg | hg
  ·exact hl g hg
  ·simp only [List.mem_singleton] at hg
   subst hg
   exact Int.le_refl _
structure MadeOk (err miss full empty m0 m1 m2 m3 : Int) (gs : List Gr) (hs : List Hf) : Prop where
 e0 : 0 ≤ err
 e1 : err ≤ 8
 i0 : 0 ≤ miss
 i1 : miss ≤ 6
 y0 : 0 ≤ empty
 y1 : empty ≤ 899
 f0 : empty ≤ full
 f1 : full ≤ empty + 1999
 mix : Mix4 m0 m1 m2 m3
 grades : ∃ p, GradesOk p gs
 taken : ∀ h ∈ hs, TakenOk miss m0 m1 m2 m3 h
theorem MadeOk.has {err miss full empty m0 m1 m2 m3 : Int} {gs : List Gr} {hs : List Hf} (h : MadeOk err miss full empty m0 m1 m2 m3 gs hs) : (boundsOf miss (fun _ => true) hs).has m0 m1 m2 m3 := by
 have hpos : ∀ x ∈ hs, 0 < x.sum := fun x hx => by have := (h.taken x hx).n0; omega
 rw [bounds_has hpos h.mix.sum]
 exact ⟨h.mix.any, fun k x hx _ => (h.taken x (List.mem_of_getElem? hx)).fits⟩

end Go.Proofs.Ytifffonoipapgaa
