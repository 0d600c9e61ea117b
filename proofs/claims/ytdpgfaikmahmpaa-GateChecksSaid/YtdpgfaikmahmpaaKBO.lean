
import Derived.Test.YtdpgfaikmahmpaaKAA
import Derived.Test.YtdpgfaikmahmpaaKAC
import Derived.Test.YtdpgfaikmahmpaaKBF
import Derived.Test.YtdpgfaikmahmpaaKBI
import Derived.Test.YtdpgfaikmahmpaaKBK
import Derived.Test.YtdpgfaikmahmpaaKBN
set_option linter.unusedSimpArgs false
set_option linter.unusedVariables false
namespace Go.Proofs.Ytdpgfaikmahmpaa
open Go.RowKit
set_option maxRecDepth 100000 in
set_option maxHeartbeats 4000000 in
theorem Take_cart (full emp : Int) (A : Option Addr) (q : Nat) (hs : List Hf) (x : Hf) (w : World) (hA : HandsAt w A hs) (hl : hs.length ≤ 1000) (he : cartErr full emp hs ≠ 0) :
  Calls Try.prog 21 #[.agg #[.int .i64 full, .int .i64 emp, .slice A hs.length q], .agg #[.int .i64 x.spot, .int .i64 x.g0, .int .i64 x.g1, .int .i64 x.g2, .int .i64 x.g3]] w fun e w' => e = .returned (.tuple #[.agg #[.int .i64 0, .int .i64 0, .slice none 0 0], .int .i64 (cartErr full emp hs)]) ∧ Below w.heap.size w w' := by
 have HA := Lib.hid hA
 clear hA
 obtain ⟨E, hE⟩ : ∃ z, z = cartErr full emp hs := ⟨_, rfl⟩
 have hE0 : E ≠ 0 := by rw [hE]; exact he
 have hq : (E != 0) = true := by simpa using hE0
 rw [← hE]
 have HE := Lib.hid hE
 clear hE he
 go_enter Try.func21, Try.ntmps21
 go_wp2_with fail
 refine (CheckCart_any full emp A q hs _ (HA.out.up zg) hl).mono ?_
 rw [← HE.out]
 rintro e w1 ⟨rfl, hb1⟩
 have Hc1 := Lib.hid (Holds.up (zp4 : Holds _ (w.heap.size) 27 #[.int .i64 full, .int .i64 emp, .slice A hs.length q]) hb1)
 have Hr1 := Lib.hid (Holds.up (zp4 : Holds _ (w.heap.size + 1 + 1) 27 #[.int .i64 0, .int .i64 0, .slice none 0 0]) hb1)
 have HB1 : Hid (Below w.heap.size w w1) := Lib.hid (Below.trans zg (hb1.mono (by first | omega | (simp; omega))))
 have hs1 := HB1.out.size
 clear hb1
 obtain ⟨kc0, kc1, kc2⟩ := Hc1.out.c3
 have lt_c : w.heap.size < w1.heap.size := Hc1.out.lt
 obtain ⟨kr0, kr1, kr2⟩ := Hr1.out.c3
 obtain ⟨zr0, zr1, zr2⟩ := Hr1.out.f3
 have lt_r : w.heap.size + 1 + 1 < w1.heap.size := Hr1.out.lt
 have lr2 : w.heap.size + 1 < w1.heap.size := by omega
 go_wp2_with fail
 all_goals refine ret_cell2 (t := 27) (cs := #[.int .i64 0, .int .i64 0, .slice none 0 0]) rfl rfl rfl (Holds.set3 _ _ _ Hr1.out) Try.underlying27 rfl (by kernel_rfl) rfl ⟨rfl, ?_⟩
 all_goals exact HB1.out.trans zg
set_option maxRecDepth 100000 in
set_option maxHeartbeats 4000000 in
theorem Take_full (full emp : Int) (A : Option Addr) (q : Nat) (hs : List Hf) (x : Hf) (w : World) (hA : HandsAt w A hs) (hl6 : hs.length = 6) (he : cartErr full emp hs = 0) :
  Calls Try.prog 21 #[.agg #[.int .i64 full, .int .i64 emp, .slice A hs.length q], .agg #[.int .i64 x.spot, .int .i64 x.g0, .int .i64 x.g1, .int .i64 x.g2, .int .i64 x.g3]] w fun e w' => e = .returned (.tuple #[.agg #[.int .i64 0, .int .i64 0, .slice none 0 0], .int .i64 9]) ∧ Below w.heap.size w w' := by
 have HA := Lib.hid hA
 clear hA
 have HE := Lib.hid he
 have HL6 := Lib.hid hl6
 have h6 : ((hs.length : Int) == 6) = true := by rw [hl6]; rfl
 clear he
 have hl : hs.length ≤ 1000 := by omega
 clear hl6
 go_enter Try.func21, Try.ntmps21
 go_wp2_with fail
 refine (CheckCart_any full emp A q hs _ (HA.out.up zg) hl).mono ?_
 rw [HE.out]
 rintro e w1 ⟨rfl, hb1⟩
 have Hc1 := Lib.hid (Holds.up (zp4 : Holds _ (w.heap.size) 27 #[.int .i64 full, .int .i64 emp, .slice A hs.length q]) hb1)
 have Hr1 := Lib.hid (Holds.up (zp4 : Holds _ (w.heap.size + 1 + 1) 27 #[.int .i64 0, .int .i64 0, .slice none 0 0]) hb1)
 have HB1 : Hid (Below w.heap.size w w1) := Lib.hid (Below.trans zg (hb1.mono (by first | omega | (simp; omega))))
 have hs1 := HB1.out.size
 clear hb1
 obtain ⟨kc0, kc1, kc2⟩ := Hc1.out.c3
 have lt_c : w.heap.size < w1.heap.size := Hc1.out.lt
 obtain ⟨kr0, kr1, kr2⟩ := Hr1.out.c3
 obtain ⟨zr0, zr1, zr2⟩ := Hr1.out.f3
 have lt_r : w.heap.size + 1 + 1 < w1.heap.size := Hr1.out.lt
 have lr2 : w.heap.size + 1 < w1.heap.size := by omega
 go_wp2_with fail
 all_goals refine ret_cell2 (t := 27) (cs := #[.int .i64 0, .int .i64 0, .slice none 0 0]) rfl rfl rfl (Holds.set3 _ _ _ Hr1.out) Try.underlying27 rfl (by kernel_rfl) rfl ⟨rfl, ?_⟩
 all_goals exact HB1.out.trans zg
set_option maxRecDepth 100000 in
set_option maxHeartbeats 4000000 in
theorem Take_more (full emp : Int) (A : Option Addr) (q : Nat) (hs : List Hf) (x : Hf) (w : World) (hA : HandsAt w A hs) (hl : hs.length ≤ 5) (he : cartErr full emp hs = 0) (he' : cartErr full emp (hs ++ [x]) ≠ 0) :
  Calls Try.prog 21 #[.agg #[.int .i64 full, .int .i64 emp, .slice A hs.length q], .agg #[.int .i64 x.spot, .int .i64 x.g0, .int .i64 x.g1, .int .i64 x.g2, .int .i64 x.g3]] w fun e w' => e = .returned (.tuple #[.agg #[.int .i64 0, .int .i64 0, .slice none 0 0], .int .i64 (cartErr full emp (hs ++ [x]))]) ∧ Below w.heap.size w w' := by
 have HA := Lib.hid hA
 have HE := Lib.hid he
 have HE2 := Lib.hid he'
 obtain ⟨E2, hE2⟩ : ∃ z, z = cartErr full emp (hs ++ [x]) := ⟨_, rfl⟩
 have hE0 : E2 ≠ 0 := by rw [hE2]; exact he'
 have hq2 : (E2 != 0) = true := by simpa using hE0
 rw [← hE2]
 have HEE := Lib.hid hE2
 clear hE2
 have hl1 : hs.length ≤ 1000 := by omega
 have hl2 : (hs ++ [x]).length ≤ 1000 := by rw [List.length_append]; show hs.length + 1 ≤ 1000; omega
 have hln : (hs ++ [x]).length = hs.length + 1 := by rw [List.length_append]; rfl
 clear hA he he'
 obtain ⟨i0, hi, hz0, hz1, hz2⟩ := info_parts info_hand
 go_enter Try.func21, Try.ntmps21
 go_wp2_with fail
 refine (CheckCart_any full emp A q hs _ (HA.out.up zg) hl1).mono ?_
 rw [HE.out]
 rintro e w1 ⟨rfl, hb1⟩
 have Hc1 := Lib.hid (Holds.up (zp4 : Holds _ (w.heap.size) 27 #[.int .i64 full, .int .i64 emp, .slice A hs.length q]) hb1)
 have Hh1 := Lib.hid (Holds.up (zp4 : Holds _ (w.heap.size + 1) 30 #[.int .i64 x.spot, .int .i64 x.g0, .int .i64 x.g1, .int .i64 x.g2, .int .i64 x.g3]) hb1)
 have Hr1 := Lib.hid (Holds.up (zp4 : Holds _ (w.heap.size + 1 + 1) 27 #[.int .i64 0, .int .i64 0, .slice none 0 0]) hb1)
 have HB1 : Hid (Below w.heap.size w w1) := Lib.hid (Below.trans zg (hb1.mono (by first | omega | (simp; omega))))
 have hs1 := HB1.out.size
 clear hb1
 obtain ⟨kc0, kc1, kc2⟩ := Hc1.out.c3
 have lt_c : w.heap.size < w1.heap.size := Hc1.out.lt
 obtain ⟨kh0, kh1, kh2, kh3, kh4⟩ := Hh1.out.c5
 have lt_h : w.heap.size + 1 < w1.heap.size := Hh1.out.lt
 obtain ⟨kr0, kr1, kr2⟩ := Hr1.out.c3
 obtain ⟨zr0, zr1, zr2⟩ := Hr1.out.f3
 have lt_r : w.heap.size + 1 + 1 < w1.heap.size := Hr1.out.lt
 have hne : ((hs.length : Int) == 6) = false := beq_eq_false_iff_ne.2 (by omega)
 go_wp2_with fail
 obtain ⟨w2, cur, hrun2, hO2, hsz2, hb2⟩ := make_hands w1 (hs.length + 1) (by omega)
 have hc1 : ((hs.length + 1 : Nat) : Int) = (hs.length : Int) + 1 := by omega
 rw [hc1] at hrun2
 simp only [hrun2, Result.andThen]
 have Hc2 := Lib.hid (Hc1.out.up hb2)
 have Hh2 := Lib.hid (Hh1.out.up hb2)
 have Hr2 := Lib.hid (Hr1.out.up hb2)
 clear kc0 kc1 kc2 lt_c kh0 kh1 kh2 kh3 kh4 lt_h kr0 kr1 kr2 zr0 zr1 zr2 lt_r
 have HB2 : Hid (Below w.heap.size w w2) := Lib.hid (HB1.out.trans (hb2.mono hs1))
 have hs2 := HB2.out.size
 have HA2 := Lib.hid (HA.out.up HB2.out)
 obtain ⟨kc0, kc1, kc2⟩ := Hc2.out.c3
 have lt_c : w.heap.size < w2.heap.size := Hc2.out.lt
 obtain ⟨vc, hrun3⟩ := copy_hands w2 3 w1.heap.size (hs.length + 1) q A hs cur 30 hO2 (by omega) (by omega) HA2.out
 obtain ⟨w3, hw3⟩ : ∃ z, z = w2.setRow w1.heap.size (hs.flatMap Hf.cells ++ cur.toList.drop (hs.length * 5)).toArray := ⟨_, rfl⟩
 rw [← hw3] at hrun3
 have hO3 : Holds w3 w1.heap.size 30 (hs.flatMap Hf.cells ++ cur.toList.drop (hs.length * 5)).toArray := hw3 ▸ setRow_heap w2 _ _ _ _ _ hO2
 have HB3 : Hid (Below w1.heap.size w1 w3) := Lib.hid (hw3 ▸ below_row hb2 (Nat.le_refl _) _)
 clear hw3
 have Hc3 := Lib.hid (Hc1.out.up HB3.out)
 have Hh3 := Lib.hid (Hh1.out.up HB3.out)
 have Hr3 := Lib.hid (Hr1.out.up HB3.out)
 obtain ⟨kh0, kh1, kh2, kh3, kh4⟩ := Hh3.out.c5
 have lt_h : w.heap.size + 1 < w3.heap.size := Hh3.out.lt
 obtain ⟨kr0, kr1, kr2⟩ := Hr3.out.c3
 obtain ⟨zr0, zr1, zr2⟩ := Hr3.out.f3
 have lt_r : w.heap.size + 1 + 1 < w3.heap.size := Hr3.out.lt
 have hcd : (cur.toList.drop (hs.length * 5)).length = 5 := by simp [hsz2]; omega
 have hrun4 := store_hand w3 w1.heap.size hs x 30 _ hcd hO3
 obtain ⟨w4, hw4⟩ : ∃ z, z = w3.setRow w1.heap.size ((hs ++ [x]).flatMap Hf.cells).toArray := ⟨_, rfl⟩
 rw [← hw4] at hrun4
 have hO4 : Hid (Holds w4 w1.heap.size 30 ((hs ++ [x]).flatMap Hf.cells).toArray) := Lib.hid (hw4 ▸ setRow_heap w3 _ _ _ _ _ hO3)
 have HB4 : Hid (Below w1.heap.size w1 w4) := Lib.hid (hw4 ▸ below_row HB3.out (Nat.le_refl _) _)
 clear hw4
 have Hc4 := Lib.hid (Hc1.out.up HB4.out)
 have Hh4 := Lib.hid (Hh1.out.up HB4.out)
 have Hr4 := Lib.hid (Hr1.out.up HB4.out)
 obtain ⟨qc0, qc1, qc2⟩ := Hc4.out.c3
 have lq_c : w.heap.size < w4.heap.size := Hc4.out.lt
 obtain ⟨qr0, qr1, qr2⟩ := Hr4.out.c3
 obtain ⟨yr0, yr1, yr2⟩ := Hr4.out.f3
 have lq_r : w.heap.size + 1 + 1 < w4.heap.size := Hr4.out.lt
 go_wp2_with ((refine wpList_store_run _ rfl 30 _ _ rfl ⟨w1.heap.size, hs.length * 5, none⟩ rfl rfl hrun4 ?_))
 have hs4 := HB4.out.size
 have HH4 := Lib.hid (hands_of hO4.out)
 have hcc := fun w' (h : HandsAt w' (some ⟨w1.heap.size, 0, none⟩) (hs ++ [x])) => CheckCart_any full emp (some ⟨w1.heap.size, 0, none⟩) (hs.length + 1) (hs ++ [x]) w' h hl2
 rw [hln] at hcc
 refine (hcc _ (HH4.out.up zg)).mono ?_
 rw [← HEE.out]
 rintro e w5 ⟨rfl, hb5⟩
 have HT5 := Lib.hid (Holds.up (zp4 : Holds _ w4.heap.size 27 #[.int .i64 full, .int .i64 emp, .slice (some ⟨w1.heap.size, 0, none⟩) (hs.length + 1) (hs.length + 1)]) hb5)
 have hb5' : Below w4.heap.size w4 w5 := Below.trans zg (hb5.mono (by first | omega | (simp; done) | (simp; omega)))
 have HB5 := Lib.hid hb5'
 clear hb5 hb5' qc0 qc1 qc2 lq_c qr0 qr1 qr2 yr0 yr1 yr2 lq_r
 clear kh0 kh1 kh2 kh3 kh4 lt_h kr0 kr1 kr2 zr0 zr1 zr2 lt_r
 have Hr5 := Lib.hid (Hr4.out.up HB5.out)
 obtain ⟨kr0, kr1, kr2⟩ := Hr5.out.c3
 obtain ⟨zr0, zr1, zr2⟩ := Hr5.out.f3
 have lt_r : w.heap.size + 1 + 1 < w5.heap.size := Hr5.out.lt
 have hs5 := HB5.out.size
 obtain ⟨kt0, kt1, kt2⟩ := HT5.out.c3
 have lt_t : w4.heap.size < w5.heap.size := HT5.out.lt
 have lt_r1 : w.heap.size + 1 + 1 < w1.heap.size := Hr1.out.lt
 go_wp2_with fail
 have hfar : w1.heap.size ≠ w.heap.size + 1 + 1 := by omega
 all_goals refine ret_cell2 (t := 27) (cs := #[.int .i64 0, .int .i64 0, .slice none 0 0]) rfl rfl rfl (Holds.set3 _ _ _ Hr5.out) Try.underlying27 rfl (by kernel_rfl) rfl ⟨rfl, ?_⟩
 all_goals exact (HB1.out.trans ((HB4.out.mono hs1).trans (HB5.out.mono (Nat.le_trans hs1 hs4)))).trans zg
theorem append_hands (w : World) (ty : TypeId) (g n d B : Nat) (G : Option Addr) (hs : List Hf) (hown : w.ownsRow B 30 5 (.slice (some ⟨g, 0, none⟩) 0 n) 0 []) (hn : hs.length ≤ n) (hG : HandsAt w G hs) (hd : G = none → hs.length = 0 ∧ d = 0) :
  ∃ v w', (Builtin.append_ #[25, 25] ty #[.slice (some ⟨g, 0, none⟩) 0 n, .slice G hs.length d]).run Try.prog w = .ok v w' ∧ OwnHands w' B v hs ∧ w.grownBy w' (some g) := by
 obtain ⟨i0, hi, hz0, hz1, hz2⟩ := info_parts info_hand
 cases G with
 | none =>
  obtain ⟨h0, rfl⟩ := hd rfl
  have e : hs = [] := List.eq_nil_of_length_eq_zero h0
  subst e
  exact ⟨_, w, run_append_owned_none (P := Try.prog) (w := w) B 25 ty 30 i0 5 und_hands hi _ 0 [] hown, hown, grow_refl w g⟩
 | some a =>
  have hl := flat_len Hf.cells (fun _ => rfl) hs
  obtain ⟨w', hrun, ho, hg⟩ := run_append_fits (P := Try.prog) (w := w) B 25 ty 30 i0 5 und_hands hi hz1 g 0 n [] hown a hs.length d (hs.flatMap Hf.cells) hl (by
   by_cases h0 : 0 < hs.length
   ·obtain ⟨B', o, e, hcell⟩ := hG h0
    cases e
    exact hands_flat hcell
   ·intro j u hj
    have e : hs = [] := List.eq_nil_of_length_eq_zero (by omega)
    subst e
    simp at hj) (hands_one hs) (by omega)
  simp only [Nat.zero_add, List.nil_append] at ho hrun
  exact ⟨_, w', hrun, ho, hg⟩
set_option maxRecDepth 100000 in
set_option maxHeartbeats 2000000 in
theorem DupHands_any (G : Option Addr) (d : Nat) (hs : List Hf) (w : World) (hG : HandsAt w G hs) (hl : hs.length ≤ 1000) (hd : G = none → hs.length = 0 ∧ d = 0) :
  Calls Try.prog 81 #[.slice G hs.length d] w fun e w' => ∃ v, e = .returned v ∧ OwnHands w' w.heap.size v hs ∧ Below w.heap.size w w' := by
 obtain ⟨i0, hi, hz0, hz1, hz2⟩ := info_parts info_hand
 obtain ⟨w2, hrun2, hown2, hgr2⟩ := run_make_own (P := Try.prog) (w := w) w.heap.size 25 30 i0 _ 5 und_hands hi hz0 hz1 .i64 .i64 hs.length (by rw [hz2]; omega) (by unfold maxLen; omega) (Nat.le_refl _)
 have hb2 := below_none hgr2
 obtain ⟨v, w3, hrun3, hown3, hgr3⟩ := append_hands w2 25 w.heap.size hs.length d w.heap.size G hs hown2 (Nat.le_refl _) (hG.up hb2) hd
 have HO := Lib.hid hown3
 have HB : Hid (Below w.heap.size w w3) := Lib.hid (hb2.grown hgr3 hb2.size (fun k hk => by cases hk; exact Nat.le_refl _))
 clear hG hown2 hgr2 hown3 hgr3 hb2
 go_enter Try.func81, Try.ntmps81
 go_wp2_with (at_builtin; (refine wpList_append_run _ rfl _ _ _ _ rfl _ _ rfl rfl hrun3 ?_))
 go_ret
 exact ⟨v, rfl, HO.out, HB.out⟩
set_option maxRecDepth 100000 in
set_option maxHeartbeats 2000000 in
theorem Owned_any (full emp : Int) (G : Option Addr) (d : Nat) (hs : List Hf) (w : World) (hG : HandsAt w G hs) (hl : hs.length ≤ 1000) (hd : G = none → hs.length = 0 ∧ d = 0) :
  Calls Try.prog 18 #[.agg #[.int .i64 full, .int .i64 emp, .slice G hs.length d]] w fun e w' => ∃ G' d', e = .returned (.agg #[.int .i64 full, .int .i64 emp, .slice G' hs.length d']) ∧ OwnHands w' w.heap.size (.slice G' hs.length d') hs ∧ hs.length ≤ d' ∧ Below w.heap.size w w' := by
 have HG := Lib.hid hG
 clear hG
 go_enter Try.func18, Try.ntmps18
 go_wp2_with fail
 refine (DupHands_any G d hs _ (HG.out.up zg) hl hd).mono ?_
 rintro e w2 ⟨v, rfl, hown, hb2⟩
 have Hg2 := Lib.hid (Holds.up (zp4 : Holds _ (w.heap.size) 27 #[.int .i64 full, .int .i64 emp, .slice G hs.length d]) hb2)
 have Hr2 := Lib.hid (Holds.up (zp4 : Holds _ (w.heap.size + 1) 27 #[.int .i64 0, .int .i64 0, .slice none 0 0]) hb2)
 have HS2 : Hid (Below w.heap.size w w2) := Lib.hid (Below.trans zg (hb2.mono (by first | exact Nat.le_refl _ | omega | (simp; done) | (simp; omega))))
 have HB2 := HS2
 have hs2 := HB2.out.size
 have hst2 := HS2.out.size
 clear hb2
 obtain ⟨G', d', rfl, hgd, _⟩ := hown.at_
 have HO := Lib.hid hown
 clear hown
 have hrl := Hr2.out
 obtain ⟨kg0, kg1, kg2⟩ := Hg2.out.c3
 obtain ⟨zg0, zg1, zg2⟩ := Hg2.out.f3
 have lt_g : w.heap.size < w2.heap.size := Hg2.out.lt
 obtain ⟨kr0, kr1, kr2⟩ := Hr2.out.c3
 obtain ⟨zr0, zr1, zr2⟩ := Hr2.out.f3
 have lt_r : w.heap.size + 1 < w2.heap.size := Hr2.out.lt
 have lt1 : w.heap.size < w.heap.size + 1 + 1 := by omega
 have lt2 : w.heap.size + 1 < w.heap.size + 1 + 1 := by omega
 go_wp2_with fail
 refine ret_cell (t := 27) (cs := #[.int .i64 full, .int .i64 emp, .slice G' hs.length d']) rfl rfl zp4 Try.underlying27 rfl (by kernel_rfl) rfl ⟨G', d', rfl, ?_, hgd, HB2.out.trans zg⟩
 have ho := HO.out
 simp only [World.size_alloc] at ho
 exact row5_mono (row5_far (row5_far (row5_far (row5_far ho (p := ⟨w.heap.size, 2, none⟩) lt1 _) (p := ⟨w.heap.size + 1, 0, none⟩) lt2 _) (p := ⟨w.heap.size + 1, 1, none⟩) lt2 _) (p := ⟨w.heap.size + 1, 2, none⟩) lt2 _) (by omega)
end Go.Proofs.Ytdpgfaikmahmpaa
