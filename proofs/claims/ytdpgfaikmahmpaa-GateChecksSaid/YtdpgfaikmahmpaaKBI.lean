import Derived.Shelf.Spec.SlicesInsert
import Derived.Deep.MidRow
import Derived.Test.YtdpgfaikmahmpaaKAA
import Derived.Test.YtdpgfaikmahmpaaKAC
import Derived.Test.YtdpgfaikmahmpaaKAN
import Derived.Test.YtdpgfaikmahmpaaKAO
import Derived.Test.YtdpgfaikmahmpaaKAU
import Derived.Test.YtdpgfaikmahmpaaKAX
import Derived.Test.YtdpgfaikmahmpaaKBC
import Derived.Test.YtdpgfaikmahmpaaKBF
import Derived.Test.YtdpgfaikmahmpaaKBH
set_option linter.unusedSimpArgs false
set_option linter.unusedVariables false
namespace Go.Proofs.Ytdpgfaikmahmpaa
open Go.RowKit
theorem MadeOk.snoc {err miss full emp m0 m1 m2 m3 : Int} {gs : List Gr} {hs : List Hf} (h : MadeOk err miss full emp m0 m1 m2 m3 gs hs) {x : Hf} (hx : TakenOk miss m0 m1 m2 m3 x) : MadeOk err miss full emp m0 m1 m2 m3 gs (hs ++ [x]) :=
 { h with
  taken := by
   intro y hy
   rcases List.mem_append.1 hy with hy | hy
   ·exact h.taken y hy
   ·rw [List.mem_singleton] at hy; subst hy; exact hx }
theorem run_copy_rows {P : Program} (w : World) (dT sT ty elem : TypeId) (m g o dLen dCap : Nat) (a : Addr) (sLen sCap : Nat) (cur : Array Value) (t : TypeId) (cs : List Value)
  (hu : P.underlying dT = some (.slice elem)) (hs : (P.info? elem).map (·.size) = some m)
  (hg : w.heap[g]? = some (.cells cur t (0, 0))) (hn : cs.length = Nat.min sLen dLen * m)
  (hsrc : ∀ j v, cs[j]? = some v → w.cell? (a.add j) = some v) (hfit : o + cs.length ≤ cur.size) (h1 : ∀ v ∈ cs, v.oneCell' = true) :
  (Builtin.copy_ #[dT, sT] ty #[.slice (some ⟨g, o, none⟩) dLen dCap, .slice (some a) sLen sCap]).run P w =
   .ok (goInt (Nat.min sLen dLen)) (w.setRow g (cur.toList.take o ++ cs ++ cur.toList.drop (o + cs.length)).toArray) := by
 have hl := run_loadCells_list (P := P) w a cs hsrc
 have hst := run_storeCells_at P g o t cs 0 cur w hg (by simpa using hfit) h1
 cases hq : P.info? elem with
 | none => simp [hq] at hs
 | some i =>
  have hi : i.size = m := by simpa [hq] using hs
  simp [Builtin.copy_, run_underlying hu, Builtin.lenOf, Builtin.firstCells, sizeOf, typeInfo, hq, hi, ← hn, hl, hst]
theorem run_copy_zero {P : Program} (w : World) (dT sT ty elem : TypeId) (m : Nat) (dp sp : Option Addr) (dLen dCap sCap : Nat)
  (hu : P.underlying dT = some (.slice elem)) (hs : (P.info? elem).map (·.size) = some m) :
  (Builtin.copy_ #[dT, sT] ty #[.slice dp dLen dCap, .slice sp 0 sCap]).run P w = .ok (goInt 0) w := by
 cases hq : P.info? elem with
 | none => simp [hq] at hs
 | some i =>
  have hi : i.size = m := by simpa [hq] using hs
  cases dp <;> cases sp <;> simp [Builtin.copy_, run_underlying hu, Builtin.lenOf, Builtin.firstCells, sizeOf, typeInfo, hq, hi, storeCells, loadCells, loadCellsFrom, Sem.run]
theorem hands_flat {w : World} {B o : Nat} {hs : List Hf} (hc : ∀ k h, hs[k]? = some h → w.cell? ⟨B, o + k * 5, none⟩ = some (.int .i64 h.spot) ∧ w.cell? ⟨B, o + k * 5 + 1, none⟩ = some (.int .i64 h.g0) ∧
  w.cell? ⟨B, o + k * 5 + 2, none⟩ = some (.int .i64 h.g1) ∧ w.cell? ⟨B, o + k * 5 + 3, none⟩ = some (.int .i64 h.g2) ∧ w.cell? ⟨B, o + k * 5 + 4, none⟩ = some (.int .i64 h.g3)) :
  ∀ j v, (hs.flatMap Hf.cells)[j]? = some v → w.cell? ((⟨B, o, none⟩ : Addr).add j) = some v := by
 intro j v hj
 rw [Addr.add_mid]
 have hlt : j < hs.length * 5 := by rw [← flat_len Hf.cells (fun _ => rfl) hs]; exact (List.getElem?_eq_some_iff.1 hj).1
 have hk : j / 5 < hs.length := by omega
 have hx : hs[j / 5]? = some hs[j / 5] := List.getElem?_eq_getElem hk
 have h5 : j % 5 < 5 := Nat.mod_lt _ (by decide)
 have hq := flat_at Hf.cells (fun _ => rfl) hs (j / 5) (j % 5) _ hx h5
 rw [show j / 5 * 5 + j % 5 = j from by omega, hj] at hq
 obtain ⟨c0, c1, c2, c3, c4⟩ := hc _ _ hx
 have hjj : o + j = o + j / 5 * 5 + j % 5 := by omega
 rw [hjj]
 generalize j % 5 = i at hq h5
 match i, h5 with
 | 0, _ => exact c0.trans hq.symm
 | 1, _ => exact c1.trans hq.symm
 | 2, _ => exact c2.trans hq.symm
 | 3, _ => exact c3.trans hq.symm
 | 4, _ => exact c4.trans hq.symm
theorem hands_one (hs : List Hf) : ∀ v ∈ hs.flatMap Hf.cells, v.oneCell' = true := by
 intro v hv
 obtain ⟨x, _, hx⟩ := List.mem_flatMap.1 hv
 simp only [Hf.cells, List.mem_cons, List.not_mem_nil, or_false] at hx
 rcases hx with rfl | rfl | rfl | rfl | rfl <;> rfl
theorem copy_hands (w : World) (ty : TypeId) (g n q : Nat) (A : Option Addr) (hs : List Hf) (cur : Array Value) (t : TypeId) (hg : Holds w g t cur) (hc : hs.length * 5 ≤ cur.size) (hn : hs.length ≤ n) (hA : HandsAt w A hs) :
  ∃ v, (Builtin.copy_ #[25, 25] ty #[.slice (some ⟨g, 0, none⟩) n n, .slice A hs.length q]).run Try.prog w = .ok v (w.setRow g (hs.flatMap Hf.cells ++ cur.toList.drop (hs.length * 5)).toArray) := by
 obtain ⟨i0, hi, hz0, hz1, hz2⟩ := info_parts info_hand
 by_cases h0 : 0 < hs.length
 ·obtain ⟨B, o, rfl, hcell⟩ := hA h0
  have hl := flat_len Hf.cells (fun _ => rfl) hs
  have hm : Nat.min hs.length n = hs.length := Nat.min_eq_left hn
  have h := run_copy_rows (P := Try.prog) w 25 25 ty 30 5 g 0 n n ⟨B, o, none⟩ hs.length q cur t (hs.flatMap Hf.cells) und_hands (by rw [hi]; simp [hz1]) hg (by rw [hm, hl]) (hands_flat hcell) (by omega) (hands_one hs)
  refine ⟨goInt ((Nat.min hs.length n : Nat) : Int), h.trans ?_⟩
  simp [hl]
 ·have e : hs = [] := List.eq_nil_of_length_eq_zero (by omega)
  subst e
  refine ⟨goInt 0, (run_copy_zero (P := Try.prog) w 25 25 ty 30 5 _ _ n n q und_hands (by rw [hi]; simp [hz1])).trans ?_⟩
  simp [setRow_self w g cur t (0, 0) hg]
theorem store_hand (w : World) (g : Nat) (hs : List Hf) (x : Hf) (t : TypeId) (rest : List Value) (hr : rest.length = 5) (hg : Holds w g t (hs.flatMap Hf.cells ++ rest).toArray) :
  (storeVar 30 ⟨g, hs.length * 5, none⟩ (.agg x.cells.toArray)).run Try.prog w = .ok () (w.setRow g ((hs ++ [x]).flatMap Hf.cells).toArray) := by
 obtain ⟨i0, hi, hz0, hz1, hz2⟩ := info_parts info_hand
 have hl := flat_len Hf.cells (fun _ => rfl) hs
 have h := run_storeCells_at Try.prog g (hs.length * 5) t x.cells 0 _ w hg (by simp [Hf.cells, hl, hr]) (by intro v hv; simp only [Hf.cells, List.mem_cons, List.not_mem_nil, or_false] at hv; rcases hv with rfl | rfl | rfl | rfl | rfl <;> rfl)
 have e : (List.take (hs.length * 5 + 0) (hs.flatMap Hf.cells ++ rest).toArray.toList ++ x.cells ++ List.drop (hs.length * 5 + 0 + x.cells.length) (hs.flatMap Hf.cells ++ rest).toArray.toList) = (hs ++ [x]).flatMap Hf.cells := by
  have h5 : x.cells.length = 5 := rfl
  rw [h5, Nat.add_zero, ← hl, List.take_left' rfl, List.drop_eq_nil_of_le (by simp [hr]), List.append_nil, List.flatMap_append]
  simp
 rw [e] at h
 simp [storeVar, sizeOf, typeInfo, hi, hz1, Value.cells, show x.cells.length = 5 from rfl, h]
theorem wpList_store_run {P : Program} (w : World) {ops : Array Oper} {rest : List Oper} {op : Oper} {a : Act} {Q : Exit → Act → World → Prop} (hgd : op.guard = none) (ty : TypeId) (x y : Operand) (ho : op.op = .store ty x y)
  (p : Addr) {v : Value} (hx : a.eval x = .pointer (some p)) (hy : a.eval y = v) {w' : World} (hr : (storeVar ty p v).run P w = .ok () w')
  (h : wpList P ops Q rest (a.put op.dst undef) w') : wpList P ops Q (op :: rest) a w :=
 wpList_plain hgd fun _ hK => by
  unfold Oper.wp execOp
  simp only [ho, hx, hy, Instr.storeAt, Instr.sureAddr, Sem.run_bind, Sem.run_pure, Result.andThen_ok, hr]
  exact hK _ _ h
theorem below_row {B g : Nat} {w0 w : World} (hb : Below B w0 w) (hBg : B ≤ g) (cs : Array Value) : Below B w0 (w.setRow g cs) :=
 hb.trans ⟨rfl, rfl, rfl, by simp [World.setRow], fun k hk => setRow_other w g k cs (by omega)⟩
theorem make_hands (w1 : World) (n : Nat) (hn : n ≤ 1000) : ∃ w2 cur, (Instr.makeSlice 25 (.int .i64 (n : Int)) (.int .i64 (n : Int))).run Try.prog w1 = .ok (.slice (some ⟨w1.heap.size, 0, none⟩) n n) w2 ∧ Holds w2 w1.heap.size 30 cur ∧ cur.size = n * 5 ∧ Below w1.heap.size w1 w2 := by
 obtain ⟨i0, hi, hz0, hz1, hz2⟩ := info_parts info_hand
 obtain ⟨w2, hrun, ⟨hl, h⟩, hg⟩ := run_makeSlice_full (P := Try.prog) (w := w1) w1.heap.size 25 30 i0 _ 5 und_hands hi hz0 hz1 .i64 .i64 n (by omega) (by rw [hz2]; omega) (by unfold maxLen; omega) (Nat.le_refl _)
 rcases h with ⟨h, _⟩ | ⟨g, cap, cur, hv, _, hc, _, _, hsz, _⟩
 ·cases h
 ·cases hv
  exact ⟨w2, cur, hrun, hc, hsz, ⟨hg.os, hg.tape, hg.output, hg.size, fun k hk => hg.block k hk (by simp)⟩⟩
set_option maxRecDepth 100000 in
set_option maxHeartbeats 4000000 in
theorem Take_ok (full emp : Int) (A : Option Addr) (q : Nat) (hs : List Hf) (x : Hf) (w : World) (hA : HandsAt w A hs) (hl : hs.length ≤ 5) (he : cartErr full emp hs = 0) (he' : cartErr full emp (hs ++ [x]) = 0) :
  Calls Try.prog 21 #[.agg #[.int .i64 full, .int .i64 emp, .slice A hs.length q], .agg #[.int .i64 x.spot, .int .i64 x.g0, .int .i64 x.g1, .int .i64 x.g2, .int .i64 x.g3]] w fun e w' => ∃ B, e = .returned (.tuple #[.agg #[.int .i64 full, .int .i64 emp, .slice (some ⟨B, 0, none⟩) (hs ++ [x]).length (hs.length + 1)], .int .i64 0]) ∧ Holds w' B 30 ((hs ++ [x]).flatMap Hf.cells).toArray ∧ w.heap.size ≤ B ∧ Below w.heap.size w w' := by
 have HA := Lib.hid hA
 have HE := Lib.hid he
 have HE2 := Lib.hid he'
 have hl1 : hs.length ≤ 1000 := by omega
 have hl2 : (hs ++ [x]).length ≤ 1000 := by rw [List.length_append]; show hs.length + 1 ≤ 1000; omega
 have hln : (hs ++ [x]).length = hs.length + 1 := by rw [List.length_append]; rfl
 clear hA he he'
 obtain ⟨i0, hi, hz0, hz1, hz2⟩ := info_parts info_hand
 go_enter Try.func21, Try.ntmps21
 go_wp2_with fail
 refine (CheckCart_any full emp A q hs _ (HA.out.up zg) hl1).mono ?_
 rw [HE.out]
 rintro e w1 ⟨rfl, hb1⟩
 have Hc1 := Lib.hid (Holds.up (zp4 : Holds _ (w.heap.size) 27 #[.int .i64 full, .int .i64 emp, .slice A hs.length q]) hb1)
 have Hh1 := Lib.hid (Holds.up (zp4 : Holds _ (w.heap.size + 1) 30 #[.int .i64 x.spot, .int .i64 x.g0, .int .i64 x.g1, .int .i64 x.g2, .int .i64 x.g3]) hb1)
 have Hr1 := Lib.hid (Holds.up (zp4 : Holds _ (w.heap.size + 1 + 1) 27 #[.int .i64 0, .int .i64 0, .slice none 0 0]) hb1)
 have HB1 : Hid (Below w.heap.size w w1) := Lib.hid (Below.trans zg (hb1.mono (by first | omega | (simp; omega))))
 have hs1 := HB1.out.size
 clear hb1
 obtain ⟨kc0, kc1, kc2⟩ := Hc1.out.c3
 have lt_c : w.heap.size < w1.heap.size := Hc1.out.lt
 obtain ⟨kh0, kh1, kh2, kh3, kh4⟩ := Hh1.out.c5
 have lt_h : w.heap.size + 1 < w1.heap.size := Hh1.out.lt
 obtain ⟨kr0, kr1, kr2⟩ := Hr1.out.c3
 obtain ⟨zr0, zr1, zr2⟩ := Hr1.out.f3
 have lt_r : w.heap.size + 1 + 1 < w1.heap.size := Hr1.out.lt
 have hne : ((hs.length : Int) == 6) = false := beq_eq_false_iff_ne.2 (by omega)
 go_wp2_with fail
 obtain ⟨w2, cur, hrun2, hO2, hsz2, hb2⟩ := make_hands w1 (hs.length + 1) (by omega)
 have hc1 : ((hs.length + 1 : Nat) : Int) = (hs.length : Int) + 1 := by omega
 rw [hc1] at hrun2
 simp only [hrun2, Result.andThen]
 have Hc2 := Lib.hid (Hc1.out.up hb2)
 have Hh2 := Lib.hid (Hh1.out.up hb2)
 have Hr2 := Lib.hid (Hr1.out.up hb2)
 clear kc0 kc1 kc2 lt_c kh0 kh1 kh2 kh3 kh4 lt_h kr0 kr1 kr2 zr0 zr1 zr2 lt_r
 have HB2 : Hid (Below w.heap.size w w2) := Lib.hid (HB1.out.trans (hb2.mono hs1))
 have hs2 := HB2.out.size
 have HA2 := Lib.hid (HA.out.up HB2.out)
 obtain ⟨kc0, kc1, kc2⟩ := Hc2.out.c3
 have lt_c : w.heap.size < w2.heap.size := Hc2.out.lt
 obtain ⟨vc, hrun3⟩ := copy_hands w2 3 w1.heap.size (hs.length + 1) q A hs cur 30 hO2 (by omega) (by omega) HA2.out
 obtain ⟨w3, hw3⟩ : ∃ z, z = w2.setRow w1.heap.size (hs.flatMap Hf.cells ++ cur.toList.drop (hs.length * 5)).toArray := ⟨_, rfl⟩
 rw [← hw3] at hrun3
 have hO3 : Holds w3 w1.heap.size 30 (hs.flatMap Hf.cells ++ cur.toList.drop (hs.length * 5)).toArray := hw3 ▸ setRow_heap w2 _ _ _ _ _ hO2
 have HB3 : Hid (Below w1.heap.size w1 w3) := Lib.hid (hw3 ▸ below_row hb2 (Nat.le_refl _) _)
 clear hw3
 have Hc3 := Lib.hid (Hc1.out.up HB3.out)
 have Hh3 := Lib.hid (Hh1.out.up HB3.out)
 have Hr3 := Lib.hid (Hr1.out.up HB3.out)
 obtain ⟨kh0, kh1, kh2, kh3, kh4⟩ := Hh3.out.c5
 have lt_h : w.heap.size + 1 < w3.heap.size := Hh3.out.lt
 obtain ⟨kr0, kr1, kr2⟩ := Hr3.out.c3
 obtain ⟨zr0, zr1, zr2⟩ := Hr3.out.f3
 have lt_r : w.heap.size + 1 + 1 < w3.heap.size := Hr3.out.lt
 have hcd : (cur.toList.drop (hs.length * 5)).length = 5 := by simp [hsz2]; omega
 have hrun4 := store_hand w3 w1.heap.size hs x 30 _ hcd hO3
 obtain ⟨w4, hw4⟩ : ∃ z, z = w3.setRow w1.heap.size ((hs ++ [x]).flatMap Hf.cells).toArray := ⟨_, rfl⟩
 rw [← hw4] at hrun4
 have hO4 : Hid (Holds w4 w1.heap.size 30 ((hs ++ [x]).flatMap Hf.cells).toArray) := Lib.hid (hw4 ▸ setRow_heap w3 _ _ _ _ _ hO3)
 have HB4 : Hid (Below w1.heap.size w1 w4) := Lib.hid (hw4 ▸ below_row HB3.out (Nat.le_refl _) _)
 clear hw4
 have Hc4 := Lib.hid (Hc1.out.up HB4.out)
 have Hh4 := Lib.hid (Hh1.out.up HB4.out)
 have Hr4 := Lib.hid (Hr1.out.up HB4.out)
 obtain ⟨qc0, qc1, qc2⟩ := Hc4.out.c3
 have lq_c : w.heap.size < w4.heap.size := Hc4.out.lt
 obtain ⟨qr0, qr1, qr2⟩ := Hr4.out.c3
 obtain ⟨yr0, yr1, yr2⟩ := Hr4.out.f3
 have lq_r : w.heap.size + 1 + 1 < w4.heap.size := Hr4.out.lt
 go_wp2_with ((refine wpList_store_run _ rfl 30 _ _ rfl ⟨w1.heap.size, hs.length * 5, none⟩ rfl rfl hrun4 ?_))
 have hs4 := HB4.out.size
 have HH4 := Lib.hid (hands_of hO4.out)
 have hcc := fun w' (h : HandsAt w' (some ⟨w1.heap.size, 0, none⟩) (hs ++ [x])) => CheckCart_any full emp (some ⟨w1.heap.size, 0, none⟩) (hs.length + 1) (hs ++ [x]) w' h hl2
 rw [hln] at hcc
 refine (hcc _ (HH4.out.up zg)).mono ?_
 rw [HE2.out]
 rintro e w5 ⟨rfl, hb5⟩
 have HT5 := Lib.hid (Holds.up (zp4 : Holds _ w4.heap.size 27 #[.int .i64 full, .int .i64 emp, .slice (some ⟨w1.heap.size, 0, none⟩) (hs.length + 1) (hs.length + 1)]) hb5)
 have hb5' : Below w4.heap.size w4 w5 := Below.trans zg (hb5.mono (by first | omega | (simp; done) | (simp; omega)))
 have HB5 := Lib.hid hb5'
 clear hb5 hb5' qc0 qc1 qc2 lq_c qr0 qr1 qr2 yr0 yr1 yr2 lq_r
 clear kh0 kh1 kh2 kh3 kh4 lt_h kr0 kr1 kr2 zr0 zr1 zr2 lt_r
 have Hr5 := Lib.hid (Hr4.out.up HB5.out)
 obtain ⟨kr0, kr1, kr2⟩ := Hr5.out.c3
 obtain ⟨zr0, zr1, zr2⟩ := Hr5.out.f3
 have lt_r : w.heap.size + 1 + 1 < w5.heap.size := Hr5.out.lt
 have hs5 := HB5.out.size
 obtain ⟨kt0, kt1, kt2⟩ := HT5.out.c3
 have lt_t : w4.heap.size < w5.heap.size := HT5.out.lt
 have lt_r1 : w.heap.size + 1 + 1 < w1.heap.size := Hr1.out.lt
 go_wp2_with fail
 have hfar : w1.heap.size ≠ w.heap.size + 1 + 1 := by omega
 refine ret_cell2 (t := 27) (cs := #[.int .i64 full, .int .i64 emp, .slice (some ⟨w1.heap.size, 0, none⟩) (hs.length + 1) (hs.length + 1)]) rfl rfl rfl (Holds.set3 _ _ _ Hr5.out) Try.underlying27 rfl (by kernel_rfl) rfl ⟨w1.heap.size, congrArg (fun n => Ending.returned (.tuple #[.agg #[.int .i64 full, .int .i64 emp, .slice (some ⟨w1.heap.size, 0, none⟩) n (hs.length + 1)], .int .i64 0])) hln.symm, Holds.far (p := ⟨w.heap.size + 1 + 1, 2, none⟩) (Holds.far (p := ⟨w.heap.size + 1 + 1, 1, none⟩) (Holds.far (p := ⟨w.heap.size + 1 + 1, 0, none⟩) (hO4.out.up HB5.out) hfar _) hfar _) hfar _, hs1, ?_⟩
 exact (HB1.out.trans (HB4.out.mono hs1)).trans ((HB5.out.mono (Nat.le_trans hs1 hs4)).trans zg)


end Go.Proofs.Ytdpgfaikmahmpaa
