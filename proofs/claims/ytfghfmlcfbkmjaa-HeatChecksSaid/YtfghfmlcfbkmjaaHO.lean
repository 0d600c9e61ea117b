/- Package heat's Sample. -/
import Derived.Test.YtfghfmlcfbkmjaaHN
set_option linter.unusedSimpArgs false
set_option linter.unusedVariables false
namespace Go.Proofs.Ytfghfmlcfbkmjaa
open Go.RowKit

theorem flat_split {α : Type} {f : α → List Value} {q : Nat} (hf : ∀ x, (f x).length = q) : ∀ (xs : List α) (k : Nat) (x : α), xs[k]? = some x → ∃ T D, xs.flatMap f = T ++ (f x ++ D) ∧ T.length = k * q ∧ ∀ y, (xs.set k y).flatMap f = T ++ (f y ++ D) := by
  intro xs
  induction xs with
  | nil => intro k x h; cases h
  | cons a l ih =>
    intro k x h
    cases k with
    | zero =>
      rw [List.getElem?_cons_zero] at h
      cases h
      exact ⟨[], l.flatMap f, by simp, by simp, fun y => by simp⟩
    | succ k =>
      rw [List.getElem?_cons_succ] at h
      obtain ⟨T, D, h1, h2, h3⟩ := ih k x h
      exact ⟨f a ++ T, D, by rw [List.flatMap_cons, h1, List.append_assoc], by rw [List.length_append, hf, h2, Nat.succ_mul, Nat.add_comm], fun y => by rw [List.set_cons_succ, List.flatMap_cons, h3, List.append_assoc]⟩
theorem splice_two (a b c d p q : Value) (D : List Value) : ∀ T : List Value, List.take (T.length + 2 + 0) (T ++ (a :: b :: c :: d :: D)) ++ [p, q] ++ List.drop (T.length + 2 + 0 + 2) (T ++ (a :: b :: c :: d :: D)) = T ++ (a :: b :: p :: q :: D) := by
  intro T
  induction T with
  | nil => rfl
  | cons t T ih =>
    have e1 : (t :: T).length + 2 + 0 = (T.length + 2 + 0) + 1 := by simp
    have e2 : (t :: T).length + 2 + 0 + 2 = (T.length + 2 + 0 + 2) + 1 := by simp
    rw [e2, e1, List.cons_append, List.take_succ_cons, List.drop_succ_cons, List.cons_append, List.cons_append, ih, List.cons_append]
theorem wpList_store_run {P : Program} (w : World) {ops : Array Oper} {rest : List Oper} {op : Oper} {a : Act} {Q : Exit → Act → World → Prop} (hgd : op.guard = none) (ty : TypeId) (x y : Operand) (ho : op.op = .store ty x y)
    (p : Addr) {v : Value} (hx : a.eval x = .pointer (some p)) (hy : a.eval y = v) {w' : World} (hr : (storeVar ty p v).run P w = .ok () w')
    (h : wpList P ops Q rest (a.put op.dst undef) w') : wpList P ops Q (op :: rest) a w :=
  wpList_plain hgd fun _ hK => by
    unfold Oper.wp execOp
    simp only [ho, hx, hy, Instr.storeAt, Instr.sureAddr, Sem.run_bind, Sem.run_pure, Result.andThen_ok, hr]
    exact hK _ _ h
theorem info_span : (Try.prog.info? 27).map (fun i => (i.zero, i.size, i.bytes)) = some (some (.agg #[.int .i64 0, .int .i64 0]), 2, 16) := by kernel_rfl
theorem store_damp (w : World) (g k : Nat) (bs : List Bn) (x : Bn) (p q : Int) (t : TypeId) (hx : bs[k]? = some x) (hg : Holds w g t (bs.flatMap Bn.cells).toArray) :
    (storeVar 27 ⟨g, k * 4 + 2, none⟩ (.agg #[.int .i64 p, .int .i64 q])).run Try.prog w = .ok () (w.setRow g ((bs.set k ⟨x.warm, x.mark, p, q⟩).flatMap Bn.cells).toArray) := by
  obtain ⟨i0, hi, hz0, hz1, hz2⟩ := info_parts info_span
  obtain ⟨T, D, h1, h2, h3⟩ := flat_split Bn.len bs k x hx
  have hsz : k * 4 + 2 + 0 + [Value.int .i64 p, Value.int .i64 q].length ≤ (bs.flatMap Bn.cells).toArray.size := by
    rw [h1]; simp [Bn.cells, h2]; omega
  have h := run_storeCells_at Try.prog g (k * 4 + 2) t [.int .i64 p, .int .i64 q] 0 _ w hg hsz (by intro v hv; simp only [List.mem_cons, List.not_mem_nil, or_false] at hv; rcases hv with rfl | rfl <;> rfl)
  have e : (List.take (k * 4 + 2 + 0) (bs.flatMap Bn.cells).toArray.toList ++ [Value.int .i64 p, Value.int .i64 q] ++ List.drop (k * 4 + 2 + 0 + [Value.int .i64 p, Value.int .i64 q].length) (bs.flatMap Bn.cells).toArray.toList) = (bs.set k ⟨x.warm, x.mark, p, q⟩).flatMap Bn.cells := by
    rw [h3, h1, ← h2]
    exact splice_two _ _ _ _ _ _ D T
  rw [e] at h
  simp [storeVar, sizeOf, typeInfo, hi, hz1, Value.cells, h]
theorem Holds.far9 {w : World} {B b : Nat} {t : TypeId} {cs : Array Value} {u0 u1 u2 u3 u4 u5 u6 u7 u8 : Value} (h : Holds w B t cs) (hb : B ≠ b) : Holds (((((((((w.setCell ⟨b, 0, none⟩ u0).setCell ⟨b, 1, none⟩ u1).setCell ⟨b, 2, none⟩ u2).setCell ⟨b, 3, none⟩ u3).setCell ⟨b, 4, none⟩ u4).setCell ⟨b, 5, none⟩ u5).setCell ⟨b, 6, none⟩ u6).setCell ⟨b, 7, none⟩ u7).setCell ⟨b, 8, none⟩ u8) B t cs := (((((((((h.far (p := ⟨b, 0, none⟩) hb _).far (p := ⟨b, 1, none⟩) hb _).far (p := ⟨b, 2, none⟩) hb _).far (p := ⟨b, 3, none⟩) hb _).far (p := ⟨b, 4, none⟩) hb _).far (p := ⟨b, 5, none⟩) hb _).far (p := ⟨b, 6, none⟩) hb _).far (p := ⟨b, 7, none⟩) hb _).far (p := ⟨b, 8, none⟩) hb _)
theorem info_barn : (Try.prog.info? 25).map (fun i => (i.zero, i.size, i.bytes)) = some (some (.agg #[.int .i64 0, .int .i64 0, .int .i64 0, .int .i64 0, .int .i64 0, .int .i64 0, .int .i64 0, .int .i64 0, .slice none 0 0]), 9, 88) := by kernel_rfl
theorem store_barn (w : World) (g : Nat) (a0 a1 a2 a3 a4 a5 a6 a7 a8 v0 v1 v2 v3 v4 v5 v6 v7 v8 : Value) (hg : Holds w g 25 #[a0, a1, a2, a3, a4, a5, a6, a7, a8]) (ho : [v0, v1, v2, v3, v4, v5, v6, v7, v8].all Value.oneCell' = true := by rfl) :
    (storeVar 25 ⟨g, 0, none⟩ (.agg #[v0, v1, v2, v3, v4, v5, v6, v7, v8])).run Try.prog w = .ok () (w.setRow g #[v0, v1, v2, v3, v4, v5, v6, v7, v8]) := by
  obtain ⟨i0, hi, hz0, hz1, hz2⟩ := info_parts info_barn
  have h := run_storeCells_at Try.prog g 0 25 [v0, v1, v2, v3, v4, v5, v6, v7, v8] 0 _ w hg (by simp) (fun v hv => List.all_eq_true.1 ho v hv)
  simp at h
  simp [storeVar, sizeOf, typeInfo, hi, hz1, Value.cells, h]
set_option maxRecDepth 100000 in
set_option maxHeartbeats 4000000 in
theorem Sample_err (b : Br) (A : Option Addr) (c : Nat) (bs : List Bn) (w : World) (hA : BinsAt w A bs) (hl : bs.length ≤ 1000) (lo hi : Int) (bin : Int) (he : binErr b bs bin ≠ 0) :
    Calls Try.prog 20 #[.agg #[.int .i64 b.cool, .int .i64 b.gangs, .int .i64 b.r0, .int .i64 b.r1, .int .i64 b.r2, .int .i64 b.r3, .int .i64 b.r4, .int .i64 b.r5, .slice A bs.length c], .int .i64 bin, .agg #[.int .i64 lo, .int .i64 hi]] w fun e w' => e = .returned (.tuple #[.agg #[.int .i64 0, .int .i64 0, .int .i64 0, .int .i64 0, .int .i64 0, .int .i64 0, .int .i64 0, .int .i64 0, .slice none 0 0], .int .i64 (binErr b bs bin)]) ∧ Below w.heap.size w w' := by
  obtain ⟨E, hE⟩ : ∃ z, binErr b bs bin = z := ⟨_, rfl⟩
  rw [hE] at he ⊢
  have HE := Lib.hid hE
  have hq : (E != 0) = true := by simpa using he
  have hq2 : (E == 0) = false := by simpa using he
  clear hE
  have HA := Lib.hid hA
  clear hA
  go_enter Try.func20, Try.ntmps20
  go_wp2_with fail
  refine (checkBin_any b A c bs bin _ (HA.out.up (by (repeat' (first | (with_reducible exact Below.refl _ _) | (with_reducible assumption) | (with_reducible refine Below.alloc ?_ ?_ _) | (with_reducible refine Below.drew ?_) | (with_reducible refine Below.setCell ?_ ?_ _) | (with_reducible exact Nat.le_refl _) | omega | (simp only [World.size_alloc, World.size_setCell, World.size_drew]; omega) | (simp; omega) | (simp; done))))) hl).mono ?_
  rw [HE.out]
  rintro e w1 ⟨rfl, hb1⟩
  have Hb1 := Lib.hid (Holds.up (by (repeat first | (with_reducible assumption) | (with_reducible apply Holds.set9) | (with_reducible apply Holds.set4) | (with_reducible apply Holds.set2) | (with_reducible apply Holds.putL) | ((with_reducible refine Holds.new' _ _ ?_); (simp; done)) | (with_reducible refine Holds.alloc ?_ _) | (with_reducible refine Holds.drew ?_) | ((with_reducible refine Holds.far ?_ (by simp only [ne_eq]; omega) _)) | rfl) : Holds _ (w.heap.size) 25 #[.int .i64 b.cool, .int .i64 b.gangs, .int .i64 b.r0, .int .i64 b.r1, .int .i64 b.r2, .int .i64 b.r3, .int .i64 b.r4, .int .i64 b.r5, .slice A bs.length c]) hb1)
  have Hd1 := Lib.hid (Holds.up (by (repeat first | (with_reducible assumption) | (with_reducible apply Holds.set9) | (with_reducible apply Holds.set4) | (with_reducible apply Holds.set2) | (with_reducible apply Holds.putL) | ((with_reducible refine Holds.new' _ _ ?_); (simp; done)) | (with_reducible refine Holds.alloc ?_ _) | (with_reducible refine Holds.drew ?_) | ((with_reducible refine Holds.far ?_ (by simp only [ne_eq]; omega) _)) | rfl) : Holds _ (w.heap.size + 1) 27 #[.int .i64 lo, .int .i64 hi]) hb1)
  have Hr1 := Lib.hid (Holds.up (by (repeat first | (with_reducible assumption) | (with_reducible apply Holds.set9) | (with_reducible apply Holds.set4) | (with_reducible apply Holds.set2) | (with_reducible apply Holds.putL) | ((with_reducible refine Holds.new' _ _ ?_); (simp; done)) | (with_reducible refine Holds.alloc ?_ _) | (with_reducible refine Holds.drew ?_) | ((with_reducible refine Holds.far ?_ (by simp only [ne_eq]; omega) _)) | rfl) : Holds _ (w.heap.size + 1 + 1) 25 #[.int .i64 0, .int .i64 0, .int .i64 0, .int .i64 0, .int .i64 0, .int .i64 0, .int .i64 0, .int .i64 0, .slice none 0 0]) hb1)
  have HS1 : Hid (Below w.heap.size w w1) := Lib.hid (Below.trans (by (repeat' (first | (with_reducible exact Below.refl _ _) | (with_reducible assumption) | (with_reducible refine Below.alloc ?_ ?_ _) | (with_reducible refine Below.drew ?_) | (with_reducible refine Below.setCell ?_ ?_ _) | (with_reducible exact Nat.le_refl _) | omega | (simp only [World.size_alloc, World.size_setCell, World.size_drew]; omega) | (simp; omega) | (simp; done)))) (hb1.mono (by first | exact Nat.le_refl _ | omega | (simp; done) | (simp; omega))))
  have HB1 := HS1
  have hs1 := HB1.out.size
  have hst1 := HS1.out.size
  have HA1 := Lib.hid (HA.out.up HS1.out)
  clear hb1
  have kb0 : w1.cell? ⟨w.heap.size, 0, none⟩ = some (.int .i64 b.cool) := Hb1.out.cell 0
  have kb1 : w1.cell? ⟨w.heap.size, 1, none⟩ = some (.int .i64 b.gangs) := Hb1.out.cell 1
  have kb2 : w1.cell? ⟨w.heap.size, 2, none⟩ = some (.int .i64 b.r0) := Hb1.out.cell 2
  have kb3 : w1.cell? ⟨w.heap.size, 3, none⟩ = some (.int .i64 b.r1) := Hb1.out.cell 3
  have kb4 : w1.cell? ⟨w.heap.size, 4, none⟩ = some (.int .i64 b.r2) := Hb1.out.cell 4
  have kb5 : w1.cell? ⟨w.heap.size, 5, none⟩ = some (.int .i64 b.r3) := Hb1.out.cell 5
  have kb6 : w1.cell? ⟨w.heap.size, 6, none⟩ = some (.int .i64 b.r4) := Hb1.out.cell 6
  have kb7 : w1.cell? ⟨w.heap.size, 7, none⟩ = some (.int .i64 b.r5) := Hb1.out.cell 7
  have kb8 : w1.cell? ⟨w.heap.size, 8, none⟩ = some (.slice A bs.length c) := Hb1.out.cell 8
  have lt_b : w.heap.size < w1.heap.size := Hb1.out.lt
  have kd0 : w1.cell? ⟨w.heap.size + 1, 0, none⟩ = some (.int .i64 lo) := Hd1.out.cell 0
  have kd1 : w1.cell? ⟨w.heap.size + 1, 1, none⟩ = some (.int .i64 hi) := Hd1.out.cell 1
  have lt_d : w.heap.size + 1 < w1.heap.size := Hd1.out.lt
  have kr0 : w1.cell? ⟨w.heap.size + 1 + 1, 0, none⟩ = some (.int .i64 0) := Hr1.out.cell 0
  have kr1 : w1.cell? ⟨w.heap.size + 1 + 1, 1, none⟩ = some (.int .i64 0) := Hr1.out.cell 1
  have kr2 : w1.cell? ⟨w.heap.size + 1 + 1, 2, none⟩ = some (.int .i64 0) := Hr1.out.cell 2
  have kr3 : w1.cell? ⟨w.heap.size + 1 + 1, 3, none⟩ = some (.int .i64 0) := Hr1.out.cell 3
  have kr4 : w1.cell? ⟨w.heap.size + 1 + 1, 4, none⟩ = some (.int .i64 0) := Hr1.out.cell 4
  have kr5 : w1.cell? ⟨w.heap.size + 1 + 1, 5, none⟩ = some (.int .i64 0) := Hr1.out.cell 5
  have kr6 : w1.cell? ⟨w.heap.size + 1 + 1, 6, none⟩ = some (.int .i64 0) := Hr1.out.cell 6
  have kr7 : w1.cell? ⟨w.heap.size + 1 + 1, 7, none⟩ = some (.int .i64 0) := Hr1.out.cell 7
  have kr8 : w1.cell? ⟨w.heap.size + 1 + 1, 8, none⟩ = some (.slice none 0 0) := Hr1.out.cell 8
  have zr0 : w1.frozen? ⟨w.heap.size + 1 + 1, 0, none⟩ = false := Hr1.out.frozen 0
  have zr1 : w1.frozen? ⟨w.heap.size + 1 + 1, 1, none⟩ = false := Hr1.out.frozen 1
  have zr2 : w1.frozen? ⟨w.heap.size + 1 + 1, 2, none⟩ = false := Hr1.out.frozen 2
  have zr3 : w1.frozen? ⟨w.heap.size + 1 + 1, 3, none⟩ = false := Hr1.out.frozen 3
  have zr4 : w1.frozen? ⟨w.heap.size + 1 + 1, 4, none⟩ = false := Hr1.out.frozen 4
  have zr5 : w1.frozen? ⟨w.heap.size + 1 + 1, 5, none⟩ = false := Hr1.out.frozen 5
  have zr6 : w1.frozen? ⟨w.heap.size + 1 + 1, 6, none⟩ = false := Hr1.out.frozen 6
  have zr7 : w1.frozen? ⟨w.heap.size + 1 + 1, 7, none⟩ = false := Hr1.out.frozen 7
  have zr8 : w1.frozen? ⟨w.heap.size + 1 + 1, 8, none⟩ = false := Hr1.out.frozen 8
  have lt_r : w.heap.size + 1 + 1 < w1.heap.size := Hr1.out.lt
  go_wp2_with fail
  refine ret_cell2 (t := 25) (cs := #[.int .i64 0, .int .i64 0, .int .i64 0, .int .i64 0, .int .i64 0, .int .i64 0, .int .i64 0, .int .i64 0, .slice none 0 0]) rfl rfl rfl (Holds.set9 _ _ _ _ _ _ _ _ _ Hr1.out) Try.underlying25 rfl (by kernel_rfl) rfl ⟨rfl, HB1.out.trans (by (repeat' (first | (with_reducible exact Below.refl _ _) | (with_reducible assumption) | (with_reducible refine Below.alloc ?_ ?_ _) | (with_reducible refine Below.drew ?_) | (with_reducible refine Below.setCell ?_ ?_ _) | (with_reducible exact Nat.le_refl _) | omega | (simp only [World.size_alloc, World.size_setCell, World.size_drew]; omega) | (simp; omega) | (simp; done))))⟩
set_option maxRecDepth 100000 in
set_option maxHeartbeats 4000000 in
theorem Sample_range (b : Br) (A : Option Addr) (c : Nat) (bs : List Bn) (w : World) (hA : BinsAt w A bs) (hl : bs.length ≤ 1000) (lo hi : Int) (hE : barnErr b bs = 0) (k : Nat) (x : Bn) (hx : bs[k]? = some x) (hc : (within lo 0 5 && within hi 0 5) = false) :
    Calls Try.prog 20 #[.agg #[.int .i64 b.cool, .int .i64 b.gangs, .int .i64 b.r0, .int .i64 b.r1, .int .i64 b.r2, .int .i64 b.r3, .int .i64 b.r4, .int .i64 b.r5, .slice A bs.length c], .int .i64 (k : Int), .agg #[.int .i64 lo, .int .i64 hi]] w fun e w' => e = .returned (.tuple #[.agg #[.int .i64 0, .int .i64 0, .int .i64 0, .int .i64 0, .int .i64 0, .int .i64 0, .int .i64 0, .int .i64 0, .slice none 0 0], .int .i64 3]) ∧ Below w.heap.size w w' := by
  have hin : within (k : Int) 0 ((bs.length : Int) - 1) = true := by simp only [within, Bool.and_eq_true, decide_eq_true_eq]; have := (List.getElem?_eq_some_iff.1 hx).1; omega
  have HE := Lib.hid (binErr_ok hE hin)
  have HX := Lib.hid hx
  have HC := Lib.hid hc
  clear hin hx hE hc
  have HA := Lib.hid hA
  clear hA
  go_enter Try.func20, Try.ntmps20
  go_wp2_with fail
  refine (checkBin_any b A c bs (k : Int) _ (HA.out.up (by (repeat' (first | (with_reducible exact Below.refl _ _) | (with_reducible assumption) | (with_reducible refine Below.alloc ?_ ?_ _) | (with_reducible refine Below.drew ?_) | (with_reducible refine Below.setCell ?_ ?_ _) | (with_reducible exact Nat.le_refl _) | omega | (simp only [World.size_alloc, World.size_setCell, World.size_drew]; omega) | (simp; omega) | (simp; done))))) hl).mono ?_
  rw [HE.out]
  rintro e w1 ⟨rfl, hb1⟩
  have Hb1 := Lib.hid (Holds.up (by (repeat first | (with_reducible assumption) | (with_reducible apply Holds.set9) | (with_reducible apply Holds.set4) | (with_reducible apply Holds.set2) | (with_reducible apply Holds.putL) | ((with_reducible refine Holds.new' _ _ ?_); (simp; done)) | (with_reducible refine Holds.alloc ?_ _) | (with_reducible refine Holds.drew ?_) | ((with_reducible refine Holds.far ?_ (by simp only [ne_eq]; omega) _)) | rfl) : Holds _ (w.heap.size) 25 #[.int .i64 b.cool, .int .i64 b.gangs, .int .i64 b.r0, .int .i64 b.r1, .int .i64 b.r2, .int .i64 b.r3, .int .i64 b.r4, .int .i64 b.r5, .slice A bs.length c]) hb1)
  have Hd1 := Lib.hid (Holds.up (by (repeat first | (with_reducible assumption) | (with_reducible apply Holds.set9) | (with_reducible apply Holds.set4) | (with_reducible apply Holds.set2) | (with_reducible apply Holds.putL) | ((with_reducible refine Holds.new' _ _ ?_); (simp; done)) | (with_reducible refine Holds.alloc ?_ _) | (with_reducible refine Holds.drew ?_) | ((with_reducible refine Holds.far ?_ (by simp only [ne_eq]; omega) _)) | rfl) : Holds _ (w.heap.size + 1) 27 #[.int .i64 lo, .int .i64 hi]) hb1)
  have Hr1 := Lib.hid (Holds.up (by (repeat first | (with_reducible assumption) | (with_reducible apply Holds.set9) | (with_reducible apply Holds.set4) | (with_reducible apply Holds.set2) | (with_reducible apply Holds.putL) | ((with_reducible refine Holds.new' _ _ ?_); (simp; done)) | (with_reducible refine Holds.alloc ?_ _) | (with_reducible refine Holds.drew ?_) | ((with_reducible refine Holds.far ?_ (by simp only [ne_eq]; omega) _)) | rfl) : Holds _ (w.heap.size + 1 + 1) 25 #[.int .i64 0, .int .i64 0, .int .i64 0, .int .i64 0, .int .i64 0, .int .i64 0, .int .i64 0, .int .i64 0, .slice none 0 0]) hb1)
  have HS1 : Hid (Below w.heap.size w w1) := Lib.hid (Below.trans (by (repeat' (first | (with_reducible exact Below.refl _ _) | (with_reducible assumption) | (with_reducible refine Below.alloc ?_ ?_ _) | (with_reducible refine Below.drew ?_) | (with_reducible refine Below.setCell ?_ ?_ _) | (with_reducible exact Nat.le_refl _) | omega | (simp only [World.size_alloc, World.size_setCell, World.size_drew]; omega) | (simp; omega) | (simp; done)))) (hb1.mono (by first | exact Nat.le_refl _ | omega | (simp; done) | (simp; omega))))
  have HB1 := HS1
  have hs1 := HB1.out.size
  have hst1 := HS1.out.size
  have HA1 := Lib.hid (HA.out.up HS1.out)
  clear hb1
  have kb0 : w1.cell? ⟨w.heap.size, 0, none⟩ = some (.int .i64 b.cool) := Hb1.out.cell 0
  have kb1 : w1.cell? ⟨w.heap.size, 1, none⟩ = some (.int .i64 b.gangs) := Hb1.out.cell 1
  have kb2 : w1.cell? ⟨w.heap.size, 2, none⟩ = some (.int .i64 b.r0) := Hb1.out.cell 2
  have kb3 : w1.cell? ⟨w.heap.size, 3, none⟩ = some (.int .i64 b.r1) := Hb1.out.cell 3
  have kb4 : w1.cell? ⟨w.heap.size, 4, none⟩ = some (.int .i64 b.r2) := Hb1.out.cell 4
  have kb5 : w1.cell? ⟨w.heap.size, 5, none⟩ = some (.int .i64 b.r3) := Hb1.out.cell 5
  have kb6 : w1.cell? ⟨w.heap.size, 6, none⟩ = some (.int .i64 b.r4) := Hb1.out.cell 6
  have kb7 : w1.cell? ⟨w.heap.size, 7, none⟩ = some (.int .i64 b.r5) := Hb1.out.cell 7
  have kb8 : w1.cell? ⟨w.heap.size, 8, none⟩ = some (.slice A bs.length c) := Hb1.out.cell 8
  have lt_b : w.heap.size < w1.heap.size := Hb1.out.lt
  have kd0 : w1.cell? ⟨w.heap.size + 1, 0, none⟩ = some (.int .i64 lo) := Hd1.out.cell 0
  have kd1 : w1.cell? ⟨w.heap.size + 1, 1, none⟩ = some (.int .i64 hi) := Hd1.out.cell 1
  have lt_d : w.heap.size + 1 < w1.heap.size := Hd1.out.lt
  have kr0 : w1.cell? ⟨w.heap.size + 1 + 1, 0, none⟩ = some (.int .i64 0) := Hr1.out.cell 0
  have kr1 : w1.cell? ⟨w.heap.size + 1 + 1, 1, none⟩ = some (.int .i64 0) := Hr1.out.cell 1
  have kr2 : w1.cell? ⟨w.heap.size + 1 + 1, 2, none⟩ = some (.int .i64 0) := Hr1.out.cell 2
  have kr3 : w1.cell? ⟨w.heap.size + 1 + 1, 3, none⟩ = some (.int .i64 0) := Hr1.out.cell 3
  have kr4 : w1.cell? ⟨w.heap.size + 1 + 1, 4, none⟩ = some (.int .i64 0) := Hr1.out.cell 4
  have kr5 : w1.cell? ⟨w.heap.size + 1 + 1, 5, none⟩ = some (.int .i64 0) := Hr1.out.cell 5
  have kr6 : w1.cell? ⟨w.heap.size + 1 + 1, 6, none⟩ = some (.int .i64 0) := Hr1.out.cell 6
  have kr7 : w1.cell? ⟨w.heap.size + 1 + 1, 7, none⟩ = some (.int .i64 0) := Hr1.out.cell 7
  have kr8 : w1.cell? ⟨w.heap.size + 1 + 1, 8, none⟩ = some (.slice none 0 0) := Hr1.out.cell 8
  have zr0 : w1.frozen? ⟨w.heap.size + 1 + 1, 0, none⟩ = false := Hr1.out.frozen 0
  have zr1 : w1.frozen? ⟨w.heap.size + 1 + 1, 1, none⟩ = false := Hr1.out.frozen 1
  have zr2 : w1.frozen? ⟨w.heap.size + 1 + 1, 2, none⟩ = false := Hr1.out.frozen 2
  have zr3 : w1.frozen? ⟨w.heap.size + 1 + 1, 3, none⟩ = false := Hr1.out.frozen 3
  have zr4 : w1.frozen? ⟨w.heap.size + 1 + 1, 4, none⟩ = false := Hr1.out.frozen 4
  have zr5 : w1.frozen? ⟨w.heap.size + 1 + 1, 5, none⟩ = false := Hr1.out.frozen 5
  have zr6 : w1.frozen? ⟨w.heap.size + 1 + 1, 6, none⟩ = false := Hr1.out.frozen 6
  have zr7 : w1.frozen? ⟨w.heap.size + 1 + 1, 7, none⟩ = false := Hr1.out.frozen 7
  have zr8 : w1.frozen? ⟨w.heap.size + 1 + 1, 8, none⟩ = false := Hr1.out.frozen 8
  have lt_r : w.heap.size + 1 + 1 < w1.heap.size := Hr1.out.lt
  go_wp2_with fail
  refine (hasClasses_any lo hi _).mono ?_
  rw [HC.out]
  rintro e w2 ⟨rfl, hb2⟩
  have Hb2 := Lib.hid (Holds.up (by have h := Hb1.out; exact (by (repeat first | (with_reducible assumption) | (with_reducible apply Holds.set9) | (with_reducible apply Holds.set4) | (with_reducible apply Holds.set2) | (with_reducible apply Holds.putL) | ((with_reducible refine Holds.new' _ _ ?_); (simp; done)) | (with_reducible refine Holds.alloc ?_ _) | (with_reducible refine Holds.drew ?_) | ((with_reducible refine Holds.far ?_ (by simp only [ne_eq]; omega) _)) | rfl)) : Holds _ (w.heap.size) 25 #[.int .i64 b.cool, .int .i64 b.gangs, .int .i64 b.r0, .int .i64 b.r1, .int .i64 b.r2, .int .i64 b.r3, .int .i64 b.r4, .int .i64 b.r5, .slice A bs.length c]) hb2)
  have Hd2 := Lib.hid (Holds.up (by have h := Hd1.out; exact (by (repeat first | (with_reducible assumption) | (with_reducible apply Holds.set9) | (with_reducible apply Holds.set4) | (with_reducible apply Holds.set2) | (with_reducible apply Holds.putL) | ((with_reducible refine Holds.new' _ _ ?_); (simp; done)) | (with_reducible refine Holds.alloc ?_ _) | (with_reducible refine Holds.drew ?_) | ((with_reducible refine Holds.far ?_ (by simp only [ne_eq]; omega) _)) | rfl)) : Holds _ (w.heap.size + 1) 27 #[.int .i64 lo, .int .i64 hi]) hb2)
  have Hr2 := Lib.hid (Holds.up (by have h := Hr1.out; exact (by (repeat first | (with_reducible assumption) | (with_reducible apply Holds.set9) | (with_reducible apply Holds.set4) | (with_reducible apply Holds.set2) | (with_reducible apply Holds.putL) | ((with_reducible refine Holds.new' _ _ ?_); (simp; done)) | (with_reducible refine Holds.alloc ?_ _) | (with_reducible refine Holds.drew ?_) | ((with_reducible refine Holds.far ?_ (by simp only [ne_eq]; omega) _)) | rfl)) : Holds _ (w.heap.size + 1 + 1) 25 #[.int .i64 0, .int .i64 0, .int .i64 0, .int .i64 0, .int .i64 0, .int .i64 0, .int .i64 0, .int .i64 0, .slice none 0 0]) hb2)
  have HS2 : Hid (Below w1.heap.size w1 w2) := Lib.hid (Below.trans (by (repeat' (first | (with_reducible exact Below.refl _ _) | (with_reducible assumption) | (with_reducible refine Below.alloc ?_ ?_ _) | (with_reducible refine Below.drew ?_) | (with_reducible refine Below.setCell ?_ ?_ _) | (with_reducible exact Nat.le_refl _) | omega | (simp only [World.size_alloc, World.size_setCell, World.size_drew]; omega) | (simp; omega) | (simp; done)))) (hb2.mono (by first | exact Nat.le_refl _ | omega | (simp; done) | (simp; omega))))
  have HB2 : Hid (Below w.heap.size w w2) := Lib.hid (HB1.out.trans (HS2.out.mono hs1))
  have hs2 := HB2.out.size
  have hst2 := HS2.out.size
  have HA2 := Lib.hid (HA1.out.up HS2.out)
  clear hb2
  clear kb0 kb1 kb2 kb3 kb4 kb5 kb6 kb7 kb8 lt_b kd0 kd1 lt_d kr0 kr1 kr2 kr3 kr4 kr5 kr6 kr7 kr8 zr0 zr1 zr2 zr3 zr4 zr5 zr6 zr7 zr8 lt_r
  have kb0 : w2.cell? ⟨w.heap.size, 0, none⟩ = some (.int .i64 b.cool) := Hb2.out.cell 0
  have kb1 : w2.cell? ⟨w.heap.size, 1, none⟩ = some (.int .i64 b.gangs) := Hb2.out.cell 1
  have kb2 : w2.cell? ⟨w.heap.size, 2, none⟩ = some (.int .i64 b.r0) := Hb2.out.cell 2
  have kb3 : w2.cell? ⟨w.heap.size, 3, none⟩ = some (.int .i64 b.r1) := Hb2.out.cell 3
  have kb4 : w2.cell? ⟨w.heap.size, 4, none⟩ = some (.int .i64 b.r2) := Hb2.out.cell 4
  have kb5 : w2.cell? ⟨w.heap.size, 5, none⟩ = some (.int .i64 b.r3) := Hb2.out.cell 5
  have kb6 : w2.cell? ⟨w.heap.size, 6, none⟩ = some (.int .i64 b.r4) := Hb2.out.cell 6
  have kb7 : w2.cell? ⟨w.heap.size, 7, none⟩ = some (.int .i64 b.r5) := Hb2.out.cell 7
  have kb8 : w2.cell? ⟨w.heap.size, 8, none⟩ = some (.slice A bs.length c) := Hb2.out.cell 8
  have lt_b : w.heap.size < w2.heap.size := Hb2.out.lt
  have kd0 : w2.cell? ⟨w.heap.size + 1, 0, none⟩ = some (.int .i64 lo) := Hd2.out.cell 0
  have kd1 : w2.cell? ⟨w.heap.size + 1, 1, none⟩ = some (.int .i64 hi) := Hd2.out.cell 1
  have lt_d : w.heap.size + 1 < w2.heap.size := Hd2.out.lt
  have kr0 : w2.cell? ⟨w.heap.size + 1 + 1, 0, none⟩ = some (.int .i64 0) := Hr2.out.cell 0
  have kr1 : w2.cell? ⟨w.heap.size + 1 + 1, 1, none⟩ = some (.int .i64 0) := Hr2.out.cell 1
  have kr2 : w2.cell? ⟨w.heap.size + 1 + 1, 2, none⟩ = some (.int .i64 0) := Hr2.out.cell 2
  have kr3 : w2.cell? ⟨w.heap.size + 1 + 1, 3, none⟩ = some (.int .i64 0) := Hr2.out.cell 3
  have kr4 : w2.cell? ⟨w.heap.size + 1 + 1, 4, none⟩ = some (.int .i64 0) := Hr2.out.cell 4
  have kr5 : w2.cell? ⟨w.heap.size + 1 + 1, 5, none⟩ = some (.int .i64 0) := Hr2.out.cell 5
  have kr6 : w2.cell? ⟨w.heap.size + 1 + 1, 6, none⟩ = some (.int .i64 0) := Hr2.out.cell 6
  have kr7 : w2.cell? ⟨w.heap.size + 1 + 1, 7, none⟩ = some (.int .i64 0) := Hr2.out.cell 7
  have kr8 : w2.cell? ⟨w.heap.size + 1 + 1, 8, none⟩ = some (.slice none 0 0) := Hr2.out.cell 8
  have zr0 : w2.frozen? ⟨w.heap.size + 1 + 1, 0, none⟩ = false := Hr2.out.frozen 0
  have zr1 : w2.frozen? ⟨w.heap.size + 1 + 1, 1, none⟩ = false := Hr2.out.frozen 1
  have zr2 : w2.frozen? ⟨w.heap.size + 1 + 1, 2, none⟩ = false := Hr2.out.frozen 2
  have zr3 : w2.frozen? ⟨w.heap.size + 1 + 1, 3, none⟩ = false := Hr2.out.frozen 3
  have zr4 : w2.frozen? ⟨w.heap.size + 1 + 1, 4, none⟩ = false := Hr2.out.frozen 4
  have zr5 : w2.frozen? ⟨w.heap.size + 1 + 1, 5, none⟩ = false := Hr2.out.frozen 5
  have zr6 : w2.frozen? ⟨w.heap.size + 1 + 1, 6, none⟩ = false := Hr2.out.frozen 6
  have zr7 : w2.frozen? ⟨w.heap.size + 1 + 1, 7, none⟩ = false := Hr2.out.frozen 7
  have zr8 : w2.frozen? ⟨w.heap.size + 1 + 1, 8, none⟩ = false := Hr2.out.frozen 8
  have lt_r : w.heap.size + 1 + 1 < w2.heap.size := Hr2.out.lt
  go_wp2_with fail
  refine ret_cell2 (t := 25) (cs := #[.int .i64 0, .int .i64 0, .int .i64 0, .int .i64 0, .int .i64 0, .int .i64 0, .int .i64 0, .int .i64 0, .slice none 0 0]) rfl rfl rfl (Holds.set9 _ _ _ _ _ _ _ _ _ Hr2.out) Try.underlying25 rfl (by kernel_rfl) rfl ⟨rfl, HB2.out.trans (by (repeat' (first | (with_reducible exact Below.refl _ _) | (with_reducible assumption) | (with_reducible refine Below.alloc ?_ ?_ _) | (with_reducible refine Below.drew ?_) | (with_reducible refine Below.setCell ?_ ?_ _) | (with_reducible exact Nat.le_refl _) | omega | (simp only [World.size_alloc, World.size_setCell, World.size_drew]; omega) | (simp; omega) | (simp; done))))⟩
set_option maxRecDepth 100000 in
set_option maxHeartbeats 4000000 in
theorem Sample_order (b : Br) (A : Option Addr) (c : Nat) (bs : List Bn) (w : World) (hA : BinsAt w A bs) (hl : bs.length ≤ 1000) (lo hi : Int) (hE : barnErr b bs = 0) (k : Nat) (x : Bn) (hx : bs[k]? = some x) (hc : (within lo 0 5 && within hi 0 5) = true) (ho : decide (hi < lo) = true) :
    Calls Try.prog 20 #[.agg #[.int .i64 b.cool, .int .i64 b.gangs, .int .i64 b.r0, .int .i64 b.r1, .int .i64 b.r2, .int .i64 b.r3, .int .i64 b.r4, .int .i64 b.r5, .slice A bs.length c], .int .i64 (k : Int), .agg #[.int .i64 lo, .int .i64 hi]] w fun e w' => e = .returned (.tuple #[.agg #[.int .i64 0, .int .i64 0, .int .i64 0, .int .i64 0, .int .i64 0, .int .i64 0, .int .i64 0, .int .i64 0, .slice none 0 0], .int .i64 4]) ∧ Below w.heap.size w w' := by
  have hin : within (k : Int) 0 ((bs.length : Int) - 1) = true := by simp only [within, Bool.and_eq_true, decide_eq_true_eq]; have := (List.getElem?_eq_some_iff.1 hx).1; omega
  have HE := Lib.hid (binErr_ok hE hin)
  have HX := Lib.hid hx
  have HC := Lib.hid hc
  have HOO := Lib.hid ho
  clear hin hx hE hc ho
  have HA := Lib.hid hA
  clear hA
  go_enter Try.func20, Try.ntmps20
  go_wp2_with fail
  refine (checkBin_any b A c bs (k : Int) _ (HA.out.up (by (repeat' (first | (with_reducible exact Below.refl _ _) | (with_reducible assumption) | (with_reducible refine Below.alloc ?_ ?_ _) | (with_reducible refine Below.drew ?_) | (with_reducible refine Below.setCell ?_ ?_ _) | (with_reducible exact Nat.le_refl _) | omega | (simp only [World.size_alloc, World.size_setCell, World.size_drew]; omega) | (simp; omega) | (simp; done))))) hl).mono ?_
  rw [HE.out]
  rintro e w1 ⟨rfl, hb1⟩
  have Hb1 := Lib.hid (Holds.up (by (repeat first | (with_reducible assumption) | (with_reducible apply Holds.set9) | (with_reducible apply Holds.set4) | (with_reducible apply Holds.set2) | (with_reducible apply Holds.putL) | ((with_reducible refine Holds.new' _ _ ?_); (simp; done)) | (with_reducible refine Holds.alloc ?_ _) | (with_reducible refine Holds.drew ?_) | ((with_reducible refine Holds.far ?_ (by simp only [ne_eq]; omega) _)) | rfl) : Holds _ (w.heap.size) 25 #[.int .i64 b.cool, .int .i64 b.gangs, .int .i64 b.r0, .int .i64 b.r1, .int .i64 b.r2, .int .i64 b.r3, .int .i64 b.r4, .int .i64 b.r5, .slice A bs.length c]) hb1)
  have Hd1 := Lib.hid (Holds.up (by (repeat first | (with_reducible assumption) | (with_reducible apply Holds.set9) | (with_reducible apply Holds.set4) | (with_reducible apply Holds.set2) | (with_reducible apply Holds.putL) | ((with_reducible refine Holds.new' _ _ ?_); (simp; done)) | (with_reducible refine Holds.alloc ?_ _) | (with_reducible refine Holds.drew ?_) | ((with_reducible refine Holds.far ?_ (by simp only [ne_eq]; omega) _)) | rfl) : Holds _ (w.heap.size + 1) 27 #[.int .i64 lo, .int .i64 hi]) hb1)
  have Hr1 := Lib.hid (Holds.up (by (repeat first | (with_reducible assumption) | (with_reducible apply Holds.set9) | (with_reducible apply Holds.set4) | (with_reducible apply Holds.set2) | (with_reducible apply Holds.putL) | ((with_reducible refine Holds.new' _ _ ?_); (simp; done)) | (with_reducible refine Holds.alloc ?_ _) | (with_reducible refine Holds.drew ?_) | ((with_reducible refine Holds.far ?_ (by simp only [ne_eq]; omega) _)) | rfl) : Holds _ (w.heap.size + 1 + 1) 25 #[.int .i64 0, .int .i64 0, .int .i64 0, .int .i64 0, .int .i64 0, .int .i64 0, .int .i64 0, .int .i64 0, .slice none 0 0]) hb1)
  have HS1 : Hid (Below w.heap.size w w1) := Lib.hid (Below.trans (by (repeat' (first | (with_reducible exact Below.refl _ _) | (with_reducible assumption) | (with_reducible refine Below.alloc ?_ ?_ _) | (with_reducible refine Below.drew ?_) | (with_reducible refine Below.setCell ?_ ?_ _) | (with_reducible exact Nat.le_refl _) | omega | (simp only [World.size_alloc, World.size_setCell, World.size_drew]; omega) | (simp; omega) | (simp; done)))) (hb1.mono (by first | exact Nat.le_refl _ | omega | (simp; done) | (simp; omega))))
  have HB1 := HS1
  have hs1 := HB1.out.size
  have hst1 := HS1.out.size
  have HA1 := Lib.hid (HA.out.up HS1.out)
  clear hb1
  have kb0 : w1.cell? ⟨w.heap.size, 0, none⟩ = some (.int .i64 b.cool) := Hb1.out.cell 0
  have kb1 : w1.cell? ⟨w.heap.size, 1, none⟩ = some (.int .i64 b.gangs) := Hb1.out.cell 1
  have kb2 : w1.cell? ⟨w.heap.size, 2, none⟩ = some (.int .i64 b.r0) := Hb1.out.cell 2
  have kb3 : w1.cell? ⟨w.heap.size, 3, none⟩ = some (.int .i64 b.r1) := Hb1.out.cell 3
  have kb4 : w1.cell? ⟨w.heap.size, 4, none⟩ = some (.int .i64 b.r2) := Hb1.out.cell 4
  have kb5 : w1.cell? ⟨w.heap.size, 5, none⟩ = some (.int .i64 b.r3) := Hb1.out.cell 5
  have kb6 : w1.cell? ⟨w.heap.size, 6, none⟩ = some (.int .i64 b.r4) := Hb1.out.cell 6
  have kb7 : w1.cell? ⟨w.heap.size, 7, none⟩ = some (.int .i64 b.r5) := Hb1.out.cell 7
  have kb8 : w1.cell? ⟨w.heap.size, 8, none⟩ = some (.slice A bs.length c) := Hb1.out.cell 8
  have lt_b : w.heap.size < w1.heap.size := Hb1.out.lt
  have kd0 : w1.cell? ⟨w.heap.size + 1, 0, none⟩ = some (.int .i64 lo) := Hd1.out.cell 0
  have kd1 : w1.cell? ⟨w.heap.size + 1, 1, none⟩ = some (.int .i64 hi) := Hd1.out.cell 1
  have lt_d : w.heap.size + 1 < w1.heap.size := Hd1.out.lt
  have kr0 : w1.cell? ⟨w.heap.size + 1 + 1, 0, none⟩ = some (.int .i64 0) := Hr1.out.cell 0
  have kr1 : w1.cell? ⟨w.heap.size + 1 + 1, 1, none⟩ = some (.int .i64 0) := Hr1.out.cell 1
  have kr2 : w1.cell? ⟨w.heap.size + 1 + 1, 2, none⟩ = some (.int .i64 0) := Hr1.out.cell 2
  have kr3 : w1.cell? ⟨w.heap.size + 1 + 1, 3, none⟩ = some (.int .i64 0) := Hr1.out.cell 3
  have kr4 : w1.cell? ⟨w.heap.size + 1 + 1, 4, none⟩ = some (.int .i64 0) := Hr1.out.cell 4
  have kr5 : w1.cell? ⟨w.heap.size + 1 + 1, 5, none⟩ = some (.int .i64 0) := Hr1.out.cell 5
  have kr6 : w1.cell? ⟨w.heap.size + 1 + 1, 6, none⟩ = some (.int .i64 0) := Hr1.out.cell 6
  have kr7 : w1.cell? ⟨w.heap.size + 1 + 1, 7, none⟩ = some (.int .i64 0) := Hr1.out.cell 7
  have kr8 : w1.cell? ⟨w.heap.size + 1 + 1, 8, none⟩ = some (.slice none 0 0) := Hr1.out.cell 8
  have zr0 : w1.frozen? ⟨w.heap.size + 1 + 1, 0, none⟩ = false := Hr1.out.frozen 0
  have zr1 : w1.frozen? ⟨w.heap.size + 1 + 1, 1, none⟩ = false := Hr1.out.frozen 1
  have zr2 : w1.frozen? ⟨w.heap.size + 1 + 1, 2, none⟩ = false := Hr1.out.frozen 2
  have zr3 : w1.frozen? ⟨w.heap.size + 1 + 1, 3, none⟩ = false := Hr1.out.frozen 3
  have zr4 : w1.frozen? ⟨w.heap.size + 1 + 1, 4, none⟩ = false := Hr1.out.frozen 4
  have zr5 : w1.frozen? ⟨w.heap.size + 1 + 1, 5, none⟩ = false := Hr1.out.frozen 5
  have zr6 : w1.frozen? ⟨w.heap.size + 1 + 1, 6, none⟩ = false := Hr1.out.frozen 6
  have zr7 : w1.frozen? ⟨w.heap.size + 1 + 1, 7, none⟩ = false := Hr1.out.frozen 7
  have zr8 : w1.frozen? ⟨w.heap.size + 1 + 1, 8, none⟩ = false := Hr1.out.frozen 8
  have lt_r : w.heap.size + 1 + 1 < w1.heap.size := Hr1.out.lt
  go_wp2_with fail
  refine (hasClasses_any lo hi _).mono ?_
  rw [HC.out]
  rintro e w2 ⟨rfl, hb2⟩
  have Hb2 := Lib.hid (Holds.up (by have h := Hb1.out; exact (by (repeat first | (with_reducible assumption) | (with_reducible apply Holds.set9) | (with_reducible apply Holds.set4) | (with_reducible apply Holds.set2) | (with_reducible apply Holds.putL) | ((with_reducible refine Holds.new' _ _ ?_); (simp; done)) | (with_reducible refine Holds.alloc ?_ _) | (with_reducible refine Holds.drew ?_) | ((with_reducible refine Holds.far ?_ (by simp only [ne_eq]; omega) _)) | rfl)) : Holds _ (w.heap.size) 25 #[.int .i64 b.cool, .int .i64 b.gangs, .int .i64 b.r0, .int .i64 b.r1, .int .i64 b.r2, .int .i64 b.r3, .int .i64 b.r4, .int .i64 b.r5, .slice A bs.length c]) hb2)
  have Hd2 := Lib.hid (Holds.up (by have h := Hd1.out; exact (by (repeat first | (with_reducible assumption) | (with_reducible apply Holds.set9) | (with_reducible apply Holds.set4) | (with_reducible apply Holds.set2) | (with_reducible apply Holds.putL) | ((with_reducible refine Holds.new' _ _ ?_); (simp; done)) | (with_reducible refine Holds.alloc ?_ _) | (with_reducible refine Holds.drew ?_) | ((with_reducible refine Holds.far ?_ (by simp only [ne_eq]; omega) _)) | rfl)) : Holds _ (w.heap.size + 1) 27 #[.int .i64 lo, .int .i64 hi]) hb2)
  have Hr2 := Lib.hid (Holds.up (by have h := Hr1.out; exact (by (repeat first | (with_reducible assumption) | (with_reducible apply Holds.set9) | (with_reducible apply Holds.set4) | (with_reducible apply Holds.set2) | (with_reducible apply Holds.putL) | ((with_reducible refine Holds.new' _ _ ?_); (simp; done)) | (with_reducible refine Holds.alloc ?_ _) | (with_reducible refine Holds.drew ?_) | ((with_reducible refine Holds.far ?_ (by simp only [ne_eq]; omega) _)) | rfl)) : Holds _ (w.heap.size + 1 + 1) 25 #[.int .i64 0, .int .i64 0, .int .i64 0, .int .i64 0, .int .i64 0, .int .i64 0, .int .i64 0, .int .i64 0, .slice none 0 0]) hb2)
  have HS2 : Hid (Below w1.heap.size w1 w2) := Lib.hid (Below.trans (by (repeat' (first | (with_reducible exact Below.refl _ _) | (with_reducible assumption) | (with_reducible refine Below.alloc ?_ ?_ _) | (with_reducible refine Below.drew ?_) | (with_reducible refine Below.setCell ?_ ?_ _) | (with_reducible exact Nat.le_refl _) | omega | (simp only [World.size_alloc, World.size_setCell, World.size_drew]; omega) | (simp; omega) | (simp; done)))) (hb2.mono (by first | exact Nat.le_refl _ | omega | (simp; done) | (simp; omega))))
  have HB2 : Hid (Below w.heap.size w w2) := Lib.hid (HB1.out.trans (HS2.out.mono hs1))
  have hs2 := HB2.out.size
  have hst2 := HS2.out.size
  have HA2 := Lib.hid (HA1.out.up HS2.out)
  clear hb2
  clear kb0 kb1 kb2 kb3 kb4 kb5 kb6 kb7 kb8 lt_b kd0 kd1 lt_d kr0 kr1 kr2 kr3 kr4 kr5 kr6 kr7 kr8 zr0 zr1 zr2 zr3 zr4 zr5 zr6 zr7 zr8 lt_r
  have kb0 : w2.cell? ⟨w.heap.size, 0, none⟩ = some (.int .i64 b.cool) := Hb2.out.cell 0
  have kb1 : w2.cell? ⟨w.heap.size, 1, none⟩ = some (.int .i64 b.gangs) := Hb2.out.cell 1
  have kb2 : w2.cell? ⟨w.heap.size, 2, none⟩ = some (.int .i64 b.r0) := Hb2.out.cell 2
  have kb3 : w2.cell? ⟨w.heap.size, 3, none⟩ = some (.int .i64 b.r1) := Hb2.out.cell 3
  have kb4 : w2.cell? ⟨w.heap.size, 4, none⟩ = some (.int .i64 b.r2) := Hb2.out.cell 4
  have kb5 : w2.cell? ⟨w.heap.size, 5, none⟩ = some (.int .i64 b.r3) := Hb2.out.cell 5
  have kb6 : w2.cell? ⟨w.heap.size, 6, none⟩ = some (.int .i64 b.r4) := Hb2.out.cell 6
  have kb7 : w2.cell? ⟨w.heap.size, 7, none⟩ = some (.int .i64 b.r5) := Hb2.out.cell 7
  have kb8 : w2.cell? ⟨w.heap.size, 8, none⟩ = some (.slice A bs.length c) := Hb2.out.cell 8
  have lt_b : w.heap.size < w2.heap.size := Hb2.out.lt
  have kd0 : w2.cell? ⟨w.heap.size + 1, 0, none⟩ = some (.int .i64 lo) := Hd2.out.cell 0
  have kd1 : w2.cell? ⟨w.heap.size + 1, 1, none⟩ = some (.int .i64 hi) := Hd2.out.cell 1
  have lt_d : w.heap.size + 1 < w2.heap.size := Hd2.out.lt
  have kr0 : w2.cell? ⟨w.heap.size + 1 + 1, 0, none⟩ = some (.int .i64 0) := Hr2.out.cell 0
  have kr1 : w2.cell? ⟨w.heap.size + 1 + 1, 1, none⟩ = some (.int .i64 0) := Hr2.out.cell 1
  have kr2 : w2.cell? ⟨w.heap.size + 1 + 1, 2, none⟩ = some (.int .i64 0) := Hr2.out.cell 2
  have kr3 : w2.cell? ⟨w.heap.size + 1 + 1, 3, none⟩ = some (.int .i64 0) := Hr2.out.cell 3
  have kr4 : w2.cell? ⟨w.heap.size + 1 + 1, 4, none⟩ = some (.int .i64 0) := Hr2.out.cell 4
  have kr5 : w2.cell? ⟨w.heap.size + 1 + 1, 5, none⟩ = some (.int .i64 0) := Hr2.out.cell 5
  have kr6 : w2.cell? ⟨w.heap.size + 1 + 1, 6, none⟩ = some (.int .i64 0) := Hr2.out.cell 6
  have kr7 : w2.cell? ⟨w.heap.size + 1 + 1, 7, none⟩ = some (.int .i64 0) := Hr2.out.cell 7
  have kr8 : w2.cell? ⟨w.heap.size + 1 + 1, 8, none⟩ = some (.slice none 0 0) := Hr2.out.cell 8
  have zr0 : w2.frozen? ⟨w.heap.size + 1 + 1, 0, none⟩ = false := Hr2.out.frozen 0
  have zr1 : w2.frozen? ⟨w.heap.size + 1 + 1, 1, none⟩ = false := Hr2.out.frozen 1
  have zr2 : w2.frozen? ⟨w.heap.size + 1 + 1, 2, none⟩ = false := Hr2.out.frozen 2
  have zr3 : w2.frozen? ⟨w.heap.size + 1 + 1, 3, none⟩ = false := Hr2.out.frozen 3
  have zr4 : w2.frozen? ⟨w.heap.size + 1 + 1, 4, none⟩ = false := Hr2.out.frozen 4
  have zr5 : w2.frozen? ⟨w.heap.size + 1 + 1, 5, none⟩ = false := Hr2.out.frozen 5
  have zr6 : w2.frozen? ⟨w.heap.size + 1 + 1, 6, none⟩ = false := Hr2.out.frozen 6
  have zr7 : w2.frozen? ⟨w.heap.size + 1 + 1, 7, none⟩ = false := Hr2.out.frozen 7
  have zr8 : w2.frozen? ⟨w.heap.size + 1 + 1, 8, none⟩ = false := Hr2.out.frozen 8
  have lt_r : w.heap.size + 1 + 1 < w2.heap.size := Hr2.out.lt
  go_wp2_with fail
  refine (isEmpty_any lo hi _).mono ?_
  rw [HOO.out]
  rintro e w3 ⟨rfl, hb3⟩
  have Hb3 := Lib.hid (Holds.up (by have h := Hb2.out; exact (by (repeat first | (with_reducible assumption) | (with_reducible apply Holds.set9) | (with_reducible apply Holds.set4) | (with_reducible apply Holds.set2) | (with_reducible apply Holds.putL) | ((with_reducible refine Holds.new' _ _ ?_); (simp; done)) | (with_reducible refine Holds.alloc ?_ _) | (with_reducible refine Holds.drew ?_) | ((with_reducible refine Holds.far ?_ (by simp only [ne_eq]; omega) _)) | rfl)) : Holds _ (w.heap.size) 25 #[.int .i64 b.cool, .int .i64 b.gangs, .int .i64 b.r0, .int .i64 b.r1, .int .i64 b.r2, .int .i64 b.r3, .int .i64 b.r4, .int .i64 b.r5, .slice A bs.length c]) hb3)
  have Hd3 := Lib.hid (Holds.up (by have h := Hd2.out; exact (by (repeat first | (with_reducible assumption) | (with_reducible apply Holds.set9) | (with_reducible apply Holds.set4) | (with_reducible apply Holds.set2) | (with_reducible apply Holds.putL) | ((with_reducible refine Holds.new' _ _ ?_); (simp; done)) | (with_reducible refine Holds.alloc ?_ _) | (with_reducible refine Holds.drew ?_) | ((with_reducible refine Holds.far ?_ (by simp only [ne_eq]; omega) _)) | rfl)) : Holds _ (w.heap.size + 1) 27 #[.int .i64 lo, .int .i64 hi]) hb3)
  have Hr3 := Lib.hid (Holds.up (by have h := Hr2.out; exact (by (repeat first | (with_reducible assumption) | (with_reducible apply Holds.set9) | (with_reducible apply Holds.set4) | (with_reducible apply Holds.set2) | (with_reducible apply Holds.putL) | ((with_reducible refine Holds.new' _ _ ?_); (simp; done)) | (with_reducible refine Holds.alloc ?_ _) | (with_reducible refine Holds.drew ?_) | ((with_reducible refine Holds.far ?_ (by simp only [ne_eq]; omega) _)) | rfl)) : Holds _ (w.heap.size + 1 + 1) 25 #[.int .i64 0, .int .i64 0, .int .i64 0, .int .i64 0, .int .i64 0, .int .i64 0, .int .i64 0, .int .i64 0, .slice none 0 0]) hb3)
  have HS3 : Hid (Below w2.heap.size w2 w3) := Lib.hid (Below.trans (by (repeat' (first | (with_reducible exact Below.refl _ _) | (with_reducible assumption) | (with_reducible refine Below.alloc ?_ ?_ _) | (with_reducible refine Below.drew ?_) | (with_reducible refine Below.setCell ?_ ?_ _) | (with_reducible exact Nat.le_refl _) | omega | (simp only [World.size_alloc, World.size_setCell, World.size_drew]; omega) | (simp; omega) | (simp; done)))) (hb3.mono (by first | exact Nat.le_refl _ | omega | (simp; done) | (simp; omega))))
  have HB3 : Hid (Below w.heap.size w w3) := Lib.hid (HB2.out.trans (HS3.out.mono hs2))
  have hs3 := HB3.out.size
  have hst3 := HS3.out.size
  have HA3 := Lib.hid (HA2.out.up HS3.out)
  clear hb3
  clear kb0 kb1 kb2 kb3 kb4 kb5 kb6 kb7 kb8 lt_b kd0 kd1 lt_d kr0 kr1 kr2 kr3 kr4 kr5 kr6 kr7 kr8 zr0 zr1 zr2 zr3 zr4 zr5 zr6 zr7 zr8 lt_r
  have kb0 : w3.cell? ⟨w.heap.size, 0, none⟩ = some (.int .i64 b.cool) := Hb3.out.cell 0
  have kb1 : w3.cell? ⟨w.heap.size, 1, none⟩ = some (.int .i64 b.gangs) := Hb3.out.cell 1
  have kb2 : w3.cell? ⟨w.heap.size, 2, none⟩ = some (.int .i64 b.r0) := Hb3.out.cell 2
  have kb3 : w3.cell? ⟨w.heap.size, 3, none⟩ = some (.int .i64 b.r1) := Hb3.out.cell 3
  have kb4 : w3.cell? ⟨w.heap.size, 4, none⟩ = some (.int .i64 b.r2) := Hb3.out.cell 4
  have kb5 : w3.cell? ⟨w.heap.size, 5, none⟩ = some (.int .i64 b.r3) := Hb3.out.cell 5
  have kb6 : w3.cell? ⟨w.heap.size, 6, none⟩ = some (.int .i64 b.r4) := Hb3.out.cell 6
  have kb7 : w3.cell? ⟨w.heap.size, 7, none⟩ = some (.int .i64 b.r5) := Hb3.out.cell 7
  have kb8 : w3.cell? ⟨w.heap.size, 8, none⟩ = some (.slice A bs.length c) := Hb3.out.cell 8
  have lt_b : w.heap.size < w3.heap.size := Hb3.out.lt
  have kd0 : w3.cell? ⟨w.heap.size + 1, 0, none⟩ = some (.int .i64 lo) := Hd3.out.cell 0
  have kd1 : w3.cell? ⟨w.heap.size + 1, 1, none⟩ = some (.int .i64 hi) := Hd3.out.cell 1
  have lt_d : w.heap.size + 1 < w3.heap.size := Hd3.out.lt
  have kr0 : w3.cell? ⟨w.heap.size + 1 + 1, 0, none⟩ = some (.int .i64 0) := Hr3.out.cell 0
  have kr1 : w3.cell? ⟨w.heap.size + 1 + 1, 1, none⟩ = some (.int .i64 0) := Hr3.out.cell 1
  have kr2 : w3.cell? ⟨w.heap.size + 1 + 1, 2, none⟩ = some (.int .i64 0) := Hr3.out.cell 2
  have kr3 : w3.cell? ⟨w.heap.size + 1 + 1, 3, none⟩ = some (.int .i64 0) := Hr3.out.cell 3
  have kr4 : w3.cell? ⟨w.heap.size + 1 + 1, 4, none⟩ = some (.int .i64 0) := Hr3.out.cell 4
  have kr5 : w3.cell? ⟨w.heap.size + 1 + 1, 5, none⟩ = some (.int .i64 0) := Hr3.out.cell 5
  have kr6 : w3.cell? ⟨w.heap.size + 1 + 1, 6, none⟩ = some (.int .i64 0) := Hr3.out.cell 6
  have kr7 : w3.cell? ⟨w.heap.size + 1 + 1, 7, none⟩ = some (.int .i64 0) := Hr3.out.cell 7
  have kr8 : w3.cell? ⟨w.heap.size + 1 + 1, 8, none⟩ = some (.slice none 0 0) := Hr3.out.cell 8
  have zr0 : w3.frozen? ⟨w.heap.size + 1 + 1, 0, none⟩ = false := Hr3.out.frozen 0
  have zr1 : w3.frozen? ⟨w.heap.size + 1 + 1, 1, none⟩ = false := Hr3.out.frozen 1
  have zr2 : w3.frozen? ⟨w.heap.size + 1 + 1, 2, none⟩ = false := Hr3.out.frozen 2
  have zr3 : w3.frozen? ⟨w.heap.size + 1 + 1, 3, none⟩ = false := Hr3.out.frozen 3
  have zr4 : w3.frozen? ⟨w.heap.size + 1 + 1, 4, none⟩ = false := Hr3.out.frozen 4
  have zr5 : w3.frozen? ⟨w.heap.size + 1 + 1, 5, none⟩ = false := Hr3.out.frozen 5
  have zr6 : w3.frozen? ⟨w.heap.size + 1 + 1, 6, none⟩ = false := Hr3.out.frozen 6
  have zr7 : w3.frozen? ⟨w.heap.size + 1 + 1, 7, none⟩ = false := Hr3.out.frozen 7
  have zr8 : w3.frozen? ⟨w.heap.size + 1 + 1, 8, none⟩ = false := Hr3.out.frozen 8
  have lt_r : w.heap.size + 1 + 1 < w3.heap.size := Hr3.out.lt
  go_wp2_with fail
  refine ret_cell2 (t := 25) (cs := #[.int .i64 0, .int .i64 0, .int .i64 0, .int .i64 0, .int .i64 0, .int .i64 0, .int .i64 0, .int .i64 0, .slice none 0 0]) rfl rfl rfl (Holds.set9 _ _ _ _ _ _ _ _ _ Hr3.out) Try.underlying25 rfl (by kernel_rfl) rfl ⟨rfl, HB3.out.trans (by (repeat' (first | (with_reducible exact Below.refl _ _) | (with_reducible assumption) | (with_reducible refine Below.alloc ?_ ?_ _) | (with_reducible refine Below.drew ?_) | (with_reducible refine Below.setCell ?_ ?_ _) | (with_reducible exact Nat.le_refl _) | omega | (simp only [World.size_alloc, World.size_setCell, World.size_drew]; omega) | (simp; omega) | (simp; done))))⟩
set_option maxRecDepth 100000 in
set_option maxHeartbeats 4000000 in
theorem Sample_clash (b : Br) (A : Option Addr) (c : Nat) (bs : List Bn) (w : World) (hA : BinsAt w A bs) (hl : bs.length ≤ 1000) (lo hi : Int) (hE : barnErr b bs = 0) (k : Nat) (x : Bn) (hx : bs[k]? = some x) (hc : (within lo 0 5 && within hi 0 5) = true) (ho : decide (hi < lo) = false) (hm : decide (min x.hi hi < max x.lo lo) = true) :
    Calls Try.prog 20 #[.agg #[.int .i64 b.cool, .int .i64 b.gangs, .int .i64 b.r0, .int .i64 b.r1, .int .i64 b.r2, .int .i64 b.r3, .int .i64 b.r4, .int .i64 b.r5, .slice A bs.length c], .int .i64 (k : Int), .agg #[.int .i64 lo, .int .i64 hi]] w fun e w' => e = .returned (.tuple #[.agg #[.int .i64 0, .int .i64 0, .int .i64 0, .int .i64 0, .int .i64 0, .int .i64 0, .int .i64 0, .int .i64 0, .slice none 0 0], .int .i64 7]) ∧ Below w.heap.size w w' := by
  have hin : within (k : Int) 0 ((bs.length : Int) - 1) = true := by simp only [within, Bool.and_eq_true, decide_eq_true_eq]; have := (List.getElem?_eq_some_iff.1 hx).1; omega
  have HE := Lib.hid (binErr_ok hE hin)
  have HX := Lib.hid hx
  obtain ⟨E0, oo, rfl, hcell⟩ := hA (by have := (List.getElem?_eq_some_iff.1 hx).1; omega)
  have hk : k < bs.length := (List.getElem?_eq_some_iff.1 hx).1
  have hk' : (k : Int) < bs.length := by omega
  have KE2 : Hid (w.cell? ⟨E0, oo + k * 4 + 2, none⟩ = some (.int .i64 x.lo)) := Lib.hid (hcell k x hx 2 _ rfl)
  have KE3 : Hid (w.cell? ⟨E0, oo + k * 4 + 2 + 1, none⟩ = some (.int .i64 x.hi)) := Lib.hid (hcell k x hx 3 _ rfl)
  have lE : E0 < w.heap.size := World.block_lt_of_cell? w _ KE2.out
  clear hcell
  obtain ⟨p, hp⟩ : ∃ z, max x.lo lo = z := ⟨_, rfl⟩
  obtain ⟨q, hq⟩ : ∃ z, min x.hi hi = z := ⟨_, rfl⟩
  rw [hp, hq] at hm
  have HP := Lib.hid hp
  have HQ := Lib.hid hq
  clear hp hq
  have HC := Lib.hid hc
  have HOO := Lib.hid ho
  have HM := Lib.hid hm
  clear hin hx hE hc ho hm
  have HA := Lib.hid hA
  clear hA
  go_enter Try.func20, Try.ntmps20
  go_wp2_with fail
  refine (checkBin_any b (some ⟨E0, oo, none⟩) c bs (k : Int) _ (HA.out.up (by (repeat' (first | (with_reducible exact Below.refl _ _) | (with_reducible assumption) | (with_reducible refine Below.alloc ?_ ?_ _) | (with_reducible refine Below.drew ?_) | (with_reducible refine Below.setCell ?_ ?_ _) | (with_reducible exact Nat.le_refl _) | omega | (simp only [World.size_alloc, World.size_setCell, World.size_drew]; omega) | (simp; omega) | (simp; done))))) hl).mono ?_
  rw [HE.out]
  rintro e w1 ⟨rfl, hb1⟩
  have Hb1 := Lib.hid (Holds.up (by (repeat first | (with_reducible assumption) | (with_reducible apply Holds.set9) | (with_reducible apply Holds.set4) | (with_reducible apply Holds.set2) | (with_reducible apply Holds.putL) | ((with_reducible refine Holds.new' _ _ ?_); (simp; done)) | (with_reducible refine Holds.alloc ?_ _) | (with_reducible refine Holds.drew ?_) | ((with_reducible refine Holds.far ?_ (by simp only [ne_eq]; omega) _)) | rfl) : Holds _ (w.heap.size) 25 #[.int .i64 b.cool, .int .i64 b.gangs, .int .i64 b.r0, .int .i64 b.r1, .int .i64 b.r2, .int .i64 b.r3, .int .i64 b.r4, .int .i64 b.r5, .slice (some ⟨E0, oo, none⟩) bs.length c]) hb1)
  have Hd1 := Lib.hid (Holds.up (by (repeat first | (with_reducible assumption) | (with_reducible apply Holds.set9) | (with_reducible apply Holds.set4) | (with_reducible apply Holds.set2) | (with_reducible apply Holds.putL) | ((with_reducible refine Holds.new' _ _ ?_); (simp; done)) | (with_reducible refine Holds.alloc ?_ _) | (with_reducible refine Holds.drew ?_) | ((with_reducible refine Holds.far ?_ (by simp only [ne_eq]; omega) _)) | rfl) : Holds _ (w.heap.size + 1) 27 #[.int .i64 lo, .int .i64 hi]) hb1)
  have Hr1 := Lib.hid (Holds.up (by (repeat first | (with_reducible assumption) | (with_reducible apply Holds.set9) | (with_reducible apply Holds.set4) | (with_reducible apply Holds.set2) | (with_reducible apply Holds.putL) | ((with_reducible refine Holds.new' _ _ ?_); (simp; done)) | (with_reducible refine Holds.alloc ?_ _) | (with_reducible refine Holds.drew ?_) | ((with_reducible refine Holds.far ?_ (by simp only [ne_eq]; omega) _)) | rfl) : Holds _ (w.heap.size + 1 + 1) 25 #[.int .i64 0, .int .i64 0, .int .i64 0, .int .i64 0, .int .i64 0, .int .i64 0, .int .i64 0, .int .i64 0, .slice none 0 0]) hb1)
  have HS1 : Hid (Below w.heap.size w w1) := Lib.hid (Below.trans (by (repeat' (first | (with_reducible exact Below.refl _ _) | (with_reducible assumption) | (with_reducible refine Below.alloc ?_ ?_ _) | (with_reducible refine Below.drew ?_) | (with_reducible refine Below.setCell ?_ ?_ _) | (with_reducible exact Nat.le_refl _) | omega | (simp only [World.size_alloc, World.size_setCell, World.size_drew]; omega) | (simp; omega) | (simp; done)))) (hb1.mono (by first | exact Nat.le_refl _ | omega | (simp; done) | (simp; omega))))
  have HB1 := HS1
  have hs1 := HB1.out.size
  have hst1 := HS1.out.size
  have HA1 := Lib.hid (HA.out.up HS1.out)
  clear hb1
  have kb0 : w1.cell? ⟨w.heap.size, 0, none⟩ = some (.int .i64 b.cool) := Hb1.out.cell 0
  have kb1 : w1.cell? ⟨w.heap.size, 1, none⟩ = some (.int .i64 b.gangs) := Hb1.out.cell 1
  have kb2 : w1.cell? ⟨w.heap.size, 2, none⟩ = some (.int .i64 b.r0) := Hb1.out.cell 2
  have kb3 : w1.cell? ⟨w.heap.size, 3, none⟩ = some (.int .i64 b.r1) := Hb1.out.cell 3
  have kb4 : w1.cell? ⟨w.heap.size, 4, none⟩ = some (.int .i64 b.r2) := Hb1.out.cell 4
  have kb5 : w1.cell? ⟨w.heap.size, 5, none⟩ = some (.int .i64 b.r3) := Hb1.out.cell 5
  have kb6 : w1.cell? ⟨w.heap.size, 6, none⟩ = some (.int .i64 b.r4) := Hb1.out.cell 6
  have kb7 : w1.cell? ⟨w.heap.size, 7, none⟩ = some (.int .i64 b.r5) := Hb1.out.cell 7
  have kb8 : w1.cell? ⟨w.heap.size, 8, none⟩ = some (.slice (some ⟨E0, oo, none⟩) bs.length c) := Hb1.out.cell 8
  have lt_b : w.heap.size < w1.heap.size := Hb1.out.lt
  have kd0 : w1.cell? ⟨w.heap.size + 1, 0, none⟩ = some (.int .i64 lo) := Hd1.out.cell 0
  have kd1 : w1.cell? ⟨w.heap.size + 1, 1, none⟩ = some (.int .i64 hi) := Hd1.out.cell 1
  have lt_d : w.heap.size + 1 < w1.heap.size := Hd1.out.lt
  have kr0 : w1.cell? ⟨w.heap.size + 1 + 1, 0, none⟩ = some (.int .i64 0) := Hr1.out.cell 0
  have kr1 : w1.cell? ⟨w.heap.size + 1 + 1, 1, none⟩ = some (.int .i64 0) := Hr1.out.cell 1
  have kr2 : w1.cell? ⟨w.heap.size + 1 + 1, 2, none⟩ = some (.int .i64 0) := Hr1.out.cell 2
  have kr3 : w1.cell? ⟨w.heap.size + 1 + 1, 3, none⟩ = some (.int .i64 0) := Hr1.out.cell 3
  have kr4 : w1.cell? ⟨w.heap.size + 1 + 1, 4, none⟩ = some (.int .i64 0) := Hr1.out.cell 4
  have kr5 : w1.cell? ⟨w.heap.size + 1 + 1, 5, none⟩ = some (.int .i64 0) := Hr1.out.cell 5
  have kr6 : w1.cell? ⟨w.heap.size + 1 + 1, 6, none⟩ = some (.int .i64 0) := Hr1.out.cell 6
  have kr7 : w1.cell? ⟨w.heap.size + 1 + 1, 7, none⟩ = some (.int .i64 0) := Hr1.out.cell 7
  have kr8 : w1.cell? ⟨w.heap.size + 1 + 1, 8, none⟩ = some (.slice none 0 0) := Hr1.out.cell 8
  have zr0 : w1.frozen? ⟨w.heap.size + 1 + 1, 0, none⟩ = false := Hr1.out.frozen 0
  have zr1 : w1.frozen? ⟨w.heap.size + 1 + 1, 1, none⟩ = false := Hr1.out.frozen 1
  have zr2 : w1.frozen? ⟨w.heap.size + 1 + 1, 2, none⟩ = false := Hr1.out.frozen 2
  have zr3 : w1.frozen? ⟨w.heap.size + 1 + 1, 3, none⟩ = false := Hr1.out.frozen 3
  have zr4 : w1.frozen? ⟨w.heap.size + 1 + 1, 4, none⟩ = false := Hr1.out.frozen 4
  have zr5 : w1.frozen? ⟨w.heap.size + 1 + 1, 5, none⟩ = false := Hr1.out.frozen 5
  have zr6 : w1.frozen? ⟨w.heap.size + 1 + 1, 6, none⟩ = false := Hr1.out.frozen 6
  have zr7 : w1.frozen? ⟨w.heap.size + 1 + 1, 7, none⟩ = false := Hr1.out.frozen 7
  have zr8 : w1.frozen? ⟨w.heap.size + 1 + 1, 8, none⟩ = false := Hr1.out.frozen 8
  have lt_r : w.heap.size + 1 + 1 < w1.heap.size := Hr1.out.lt
  go_wp2_with fail
  refine (hasClasses_any lo hi _).mono ?_
  rw [HC.out]
  rintro e w2 ⟨rfl, hb2⟩
  have Hb2 := Lib.hid (Holds.up (by have h := Hb1.out; exact (by (repeat first | (with_reducible assumption) | (with_reducible apply Holds.set9) | (with_reducible apply Holds.set4) | (with_reducible apply Holds.set2) | (with_reducible apply Holds.putL) | ((with_reducible refine Holds.new' _ _ ?_); (simp; done)) | (with_reducible refine Holds.alloc ?_ _) | (with_reducible refine Holds.drew ?_) | ((with_reducible refine Holds.far ?_ (by simp only [ne_eq]; omega) _)) | rfl)) : Holds _ (w.heap.size) 25 #[.int .i64 b.cool, .int .i64 b.gangs, .int .i64 b.r0, .int .i64 b.r1, .int .i64 b.r2, .int .i64 b.r3, .int .i64 b.r4, .int .i64 b.r5, .slice (some ⟨E0, oo, none⟩) bs.length c]) hb2)
  have Hd2 := Lib.hid (Holds.up (by have h := Hd1.out; exact (by (repeat first | (with_reducible assumption) | (with_reducible apply Holds.set9) | (with_reducible apply Holds.set4) | (with_reducible apply Holds.set2) | (with_reducible apply Holds.putL) | ((with_reducible refine Holds.new' _ _ ?_); (simp; done)) | (with_reducible refine Holds.alloc ?_ _) | (with_reducible refine Holds.drew ?_) | ((with_reducible refine Holds.far ?_ (by simp only [ne_eq]; omega) _)) | rfl)) : Holds _ (w.heap.size + 1) 27 #[.int .i64 lo, .int .i64 hi]) hb2)
  have Hr2 := Lib.hid (Holds.up (by have h := Hr1.out; exact (by (repeat first | (with_reducible assumption) | (with_reducible apply Holds.set9) | (with_reducible apply Holds.set4) | (with_reducible apply Holds.set2) | (with_reducible apply Holds.putL) | ((with_reducible refine Holds.new' _ _ ?_); (simp; done)) | (with_reducible refine Holds.alloc ?_ _) | (with_reducible refine Holds.drew ?_) | ((with_reducible refine Holds.far ?_ (by simp only [ne_eq]; omega) _)) | rfl)) : Holds _ (w.heap.size + 1 + 1) 25 #[.int .i64 0, .int .i64 0, .int .i64 0, .int .i64 0, .int .i64 0, .int .i64 0, .int .i64 0, .int .i64 0, .slice none 0 0]) hb2)
  have HS2 : Hid (Below w1.heap.size w1 w2) := Lib.hid (Below.trans (by (repeat' (first | (with_reducible exact Below.refl _ _) | (with_reducible assumption) | (with_reducible refine Below.alloc ?_ ?_ _) | (with_reducible refine Below.drew ?_) | (with_reducible refine Below.setCell ?_ ?_ _) | (with_reducible exact Nat.le_refl _) | omega | (simp only [World.size_alloc, World.size_setCell, World.size_drew]; omega) | (simp; omega) | (simp; done)))) (hb2.mono (by first | exact Nat.le_refl _ | omega | (simp; done) | (simp; omega))))
  have HB2 : Hid (Below w.heap.size w w2) := Lib.hid (HB1.out.trans (HS2.out.mono hs1))
  have hs2 := HB2.out.size
  have hst2 := HS2.out.size
  have HA2 := Lib.hid (HA1.out.up HS2.out)
  clear hb2
  clear kb0 kb1 kb2 kb3 kb4 kb5 kb6 kb7 kb8 lt_b kd0 kd1 lt_d kr0 kr1 kr2 kr3 kr4 kr5 kr6 kr7 kr8 zr0 zr1 zr2 zr3 zr4 zr5 zr6 zr7 zr8 lt_r
  have kb0 : w2.cell? ⟨w.heap.size, 0, none⟩ = some (.int .i64 b.cool) := Hb2.out.cell 0
  have kb1 : w2.cell? ⟨w.heap.size, 1, none⟩ = some (.int .i64 b.gangs) := Hb2.out.cell 1
  have kb2 : w2.cell? ⟨w.heap.size, 2, none⟩ = some (.int .i64 b.r0) := Hb2.out.cell 2
  have kb3 : w2.cell? ⟨w.heap.size, 3, none⟩ = some (.int .i64 b.r1) := Hb2.out.cell 3
  have kb4 : w2.cell? ⟨w.heap.size, 4, none⟩ = some (.int .i64 b.r2) := Hb2.out.cell 4
  have kb5 : w2.cell? ⟨w.heap.size, 5, none⟩ = some (.int .i64 b.r3) := Hb2.out.cell 5
  have kb6 : w2.cell? ⟨w.heap.size, 6, none⟩ = some (.int .i64 b.r4) := Hb2.out.cell 6
  have kb7 : w2.cell? ⟨w.heap.size, 7, none⟩ = some (.int .i64 b.r5) := Hb2.out.cell 7
  have kb8 : w2.cell? ⟨w.heap.size, 8, none⟩ = some (.slice (some ⟨E0, oo, none⟩) bs.length c) := Hb2.out.cell 8
  have lt_b : w.heap.size < w2.heap.size := Hb2.out.lt
  have kd0 : w2.cell? ⟨w.heap.size + 1, 0, none⟩ = some (.int .i64 lo) := Hd2.out.cell 0
  have kd1 : w2.cell? ⟨w.heap.size + 1, 1, none⟩ = some (.int .i64 hi) := Hd2.out.cell 1
  have lt_d : w.heap.size + 1 < w2.heap.size := Hd2.out.lt
  have kr0 : w2.cell? ⟨w.heap.size + 1 + 1, 0, none⟩ = some (.int .i64 0) := Hr2.out.cell 0
  have kr1 : w2.cell? ⟨w.heap.size + 1 + 1, 1, none⟩ = some (.int .i64 0) := Hr2.out.cell 1
  have kr2 : w2.cell? ⟨w.heap.size + 1 + 1, 2, none⟩ = some (.int .i64 0) := Hr2.out.cell 2
  have kr3 : w2.cell? ⟨w.heap.size + 1 + 1, 3, none⟩ = some (.int .i64 0) := Hr2.out.cell 3
  have kr4 : w2.cell? ⟨w.heap.size + 1 + 1, 4, none⟩ = some (.int .i64 0) := Hr2.out.cell 4
  have kr5 : w2.cell? ⟨w.heap.size + 1 + 1, 5, none⟩ = some (.int .i64 0) := Hr2.out.cell 5
  have kr6 : w2.cell? ⟨w.heap.size + 1 + 1, 6, none⟩ = some (.int .i64 0) := Hr2.out.cell 6
  have kr7 : w2.cell? ⟨w.heap.size + 1 + 1, 7, none⟩ = some (.int .i64 0) := Hr2.out.cell 7
  have kr8 : w2.cell? ⟨w.heap.size + 1 + 1, 8, none⟩ = some (.slice none 0 0) := Hr2.out.cell 8
  have zr0 : w2.frozen? ⟨w.heap.size + 1 + 1, 0, none⟩ = false := Hr2.out.frozen 0
  have zr1 : w2.frozen? ⟨w.heap.size + 1 + 1, 1, none⟩ = false := Hr2.out.frozen 1
  have zr2 : w2.frozen? ⟨w.heap.size + 1 + 1, 2, none⟩ = false := Hr2.out.frozen 2
  have zr3 : w2.frozen? ⟨w.heap.size + 1 + 1, 3, none⟩ = false := Hr2.out.frozen 3
  have zr4 : w2.frozen? ⟨w.heap.size + 1 + 1, 4, none⟩ = false := Hr2.out.frozen 4
  have zr5 : w2.frozen? ⟨w.heap.size + 1 + 1, 5, none⟩ = false := Hr2.out.frozen 5
  have zr6 : w2.frozen? ⟨w.heap.size + 1 + 1, 6, none⟩ = false := Hr2.out.frozen 6
  have zr7 : w2.frozen? ⟨w.heap.size + 1 + 1, 7, none⟩ = false := Hr2.out.frozen 7
  have zr8 : w2.frozen? ⟨w.heap.size + 1 + 1, 8, none⟩ = false := Hr2.out.frozen 8
  have lt_r : w.heap.size + 1 + 1 < w2.heap.size := Hr2.out.lt
  go_wp2_with fail
  refine (isEmpty_any lo hi _).mono ?_
  rw [HOO.out]
  rintro e w3 ⟨rfl, hb3⟩
  have Hb3 := Lib.hid (Holds.up (by have h := Hb2.out; exact (by (repeat first | (with_reducible assumption) | (with_reducible apply Holds.set9) | (with_reducible apply Holds.set4) | (with_reducible apply Holds.set2) | (with_reducible apply Holds.putL) | ((with_reducible refine Holds.new' _ _ ?_); (simp; done)) | (with_reducible refine Holds.alloc ?_ _) | (with_reducible refine Holds.drew ?_) | ((with_reducible refine Holds.far ?_ (by simp only [ne_eq]; omega) _)) | rfl)) : Holds _ (w.heap.size) 25 #[.int .i64 b.cool, .int .i64 b.gangs, .int .i64 b.r0, .int .i64 b.r1, .int .i64 b.r2, .int .i64 b.r3, .int .i64 b.r4, .int .i64 b.r5, .slice (some ⟨E0, oo, none⟩) bs.length c]) hb3)
  have Hd3 := Lib.hid (Holds.up (by have h := Hd2.out; exact (by (repeat first | (with_reducible assumption) | (with_reducible apply Holds.set9) | (with_reducible apply Holds.set4) | (with_reducible apply Holds.set2) | (with_reducible apply Holds.putL) | ((with_reducible refine Holds.new' _ _ ?_); (simp; done)) | (with_reducible refine Holds.alloc ?_ _) | (with_reducible refine Holds.drew ?_) | ((with_reducible refine Holds.far ?_ (by simp only [ne_eq]; omega) _)) | rfl)) : Holds _ (w.heap.size + 1) 27 #[.int .i64 lo, .int .i64 hi]) hb3)
  have Hr3 := Lib.hid (Holds.up (by have h := Hr2.out; exact (by (repeat first | (with_reducible assumption) | (with_reducible apply Holds.set9) | (with_reducible apply Holds.set4) | (with_reducible apply Holds.set2) | (with_reducible apply Holds.putL) | ((with_reducible refine Holds.new' _ _ ?_); (simp; done)) | (with_reducible refine Holds.alloc ?_ _) | (with_reducible refine Holds.drew ?_) | ((with_reducible refine Holds.far ?_ (by simp only [ne_eq]; omega) _)) | rfl)) : Holds _ (w.heap.size + 1 + 1) 25 #[.int .i64 0, .int .i64 0, .int .i64 0, .int .i64 0, .int .i64 0, .int .i64 0, .int .i64 0, .int .i64 0, .slice none 0 0]) hb3)
  have HS3 : Hid (Below w2.heap.size w2 w3) := Lib.hid (Below.trans (by (repeat' (first | (with_reducible exact Below.refl _ _) | (with_reducible assumption) | (with_reducible refine Below.alloc ?_ ?_ _) | (with_reducible refine Below.drew ?_) | (with_reducible refine Below.setCell ?_ ?_ _) | (with_reducible exact Nat.le_refl _) | omega | (simp only [World.size_alloc, World.size_setCell, World.size_drew]; omega) | (simp; omega) | (simp; done)))) (hb3.mono (by first | exact Nat.le_refl _ | omega | (simp; done) | (simp; omega))))
  have HB3 : Hid (Below w.heap.size w w3) := Lib.hid (HB2.out.trans (HS3.out.mono hs2))
  have hs3 := HB3.out.size
  have hst3 := HS3.out.size
  have HA3 := Lib.hid (HA2.out.up HS3.out)
  clear hb3
  clear kb0 kb1 kb2 kb3 kb4 kb5 kb6 kb7 kb8 lt_b kd0 kd1 lt_d kr0 kr1 kr2 kr3 kr4 kr5 kr6 kr7 kr8 zr0 zr1 zr2 zr3 zr4 zr5 zr6 zr7 zr8 lt_r
  have kb0 : w3.cell? ⟨w.heap.size, 0, none⟩ = some (.int .i64 b.cool) := Hb3.out.cell 0
  have kb1 : w3.cell? ⟨w.heap.size, 1, none⟩ = some (.int .i64 b.gangs) := Hb3.out.cell 1
  have kb2 : w3.cell? ⟨w.heap.size, 2, none⟩ = some (.int .i64 b.r0) := Hb3.out.cell 2
  have kb3 : w3.cell? ⟨w.heap.size, 3, none⟩ = some (.int .i64 b.r1) := Hb3.out.cell 3
  have kb4 : w3.cell? ⟨w.heap.size, 4, none⟩ = some (.int .i64 b.r2) := Hb3.out.cell 4
  have kb5 : w3.cell? ⟨w.heap.size, 5, none⟩ = some (.int .i64 b.r3) := Hb3.out.cell 5
  have kb6 : w3.cell? ⟨w.heap.size, 6, none⟩ = some (.int .i64 b.r4) := Hb3.out.cell 6
  have kb7 : w3.cell? ⟨w.heap.size, 7, none⟩ = some (.int .i64 b.r5) := Hb3.out.cell 7
  have kb8 : w3.cell? ⟨w.heap.size, 8, none⟩ = some (.slice (some ⟨E0, oo, none⟩) bs.length c) := Hb3.out.cell 8
  have lt_b : w.heap.size < w3.heap.size := Hb3.out.lt
  have kd0 : w3.cell? ⟨w.heap.size + 1, 0, none⟩ = some (.int .i64 lo) := Hd3.out.cell 0
  have kd1 : w3.cell? ⟨w.heap.size + 1, 1, none⟩ = some (.int .i64 hi) := Hd3.out.cell 1
  have lt_d : w.heap.size + 1 < w3.heap.size := Hd3.out.lt
  have kr0 : w3.cell? ⟨w.heap.size + 1 + 1, 0, none⟩ = some (.int .i64 0) := Hr3.out.cell 0
  have kr1 : w3.cell? ⟨w.heap.size + 1 + 1, 1, none⟩ = some (.int .i64 0) := Hr3.out.cell 1
  have kr2 : w3.cell? ⟨w.heap.size + 1 + 1, 2, none⟩ = some (.int .i64 0) := Hr3.out.cell 2
  have kr3 : w3.cell? ⟨w.heap.size + 1 + 1, 3, none⟩ = some (.int .i64 0) := Hr3.out.cell 3
  have kr4 : w3.cell? ⟨w.heap.size + 1 + 1, 4, none⟩ = some (.int .i64 0) := Hr3.out.cell 4
  have kr5 : w3.cell? ⟨w.heap.size + 1 + 1, 5, none⟩ = some (.int .i64 0) := Hr3.out.cell 5
  have kr6 : w3.cell? ⟨w.heap.size + 1 + 1, 6, none⟩ = some (.int .i64 0) := Hr3.out.cell 6
  have kr7 : w3.cell? ⟨w.heap.size + 1 + 1, 7, none⟩ = some (.int .i64 0) := Hr3.out.cell 7
  have kr8 : w3.cell? ⟨w.heap.size + 1 + 1, 8, none⟩ = some (.slice none 0 0) := Hr3.out.cell 8
  have zr0 : w3.frozen? ⟨w.heap.size + 1 + 1, 0, none⟩ = false := Hr3.out.frozen 0
  have zr1 : w3.frozen? ⟨w.heap.size + 1 + 1, 1, none⟩ = false := Hr3.out.frozen 1
  have zr2 : w3.frozen? ⟨w.heap.size + 1 + 1, 2, none⟩ = false := Hr3.out.frozen 2
  have zr3 : w3.frozen? ⟨w.heap.size + 1 + 1, 3, none⟩ = false := Hr3.out.frozen 3
  have zr4 : w3.frozen? ⟨w.heap.size + 1 + 1, 4, none⟩ = false := Hr3.out.frozen 4
  have zr5 : w3.frozen? ⟨w.heap.size + 1 + 1, 5, none⟩ = false := Hr3.out.frozen 5
  have zr6 : w3.frozen? ⟨w.heap.size + 1 + 1, 6, none⟩ = false := Hr3.out.frozen 6
  have zr7 : w3.frozen? ⟨w.heap.size + 1 + 1, 7, none⟩ = false := Hr3.out.frozen 7
  have zr8 : w3.frozen? ⟨w.heap.size + 1 + 1, 8, none⟩ = false := Hr3.out.frozen 8
  have lt_r : w.heap.size + 1 + 1 < w3.heap.size := Hr3.out.lt
  go_wp2_with fail
  rename_i Kc hKc
  refine wp_region_partsG (by kernel_rfl) [some 26, some 27, some 28, some 29, some 30, some 31, some 32, some 33, some 9, none] (fun jq xq w' => match jq with
    | 0 => xq 26 = .pointer (some ⟨w.heap.size, 8, none⟩)
    | 1 => xq 27 = .slice (some ⟨E0, oo, none⟩) bs.length c
    | 2 => xq 28 = .int .i64 (k : Int)
    | 3 => xq 29 = .pointer (some ⟨E0, oo + k * 4, none⟩)
    | 4 => xq 30 = .pointer (some ⟨E0, oo + k * 4 + 2, none⟩)
    | 5 => xq 31 = .agg #[.int .i64 x.lo, .int .i64 x.hi]
    | 6 => xq 32 = .agg #[.int .i64 lo, .int .i64 hi]
    | 7 => xq 33 = .agg #[.int .i64 p, .int .i64 q]
    | 8 => ∃ b, xq 9 = .pointer (some ⟨b, 0, none⟩) ∧ w3.heap.size ≤ b ∧ Holds w' b 27 #[.int .i64 0, .int .i64 0]
    | 9 => ∃ b, xq 9 = .pointer (some ⟨b, 0, none⟩) ∧ w3.heap.size ≤ b ∧ Holds w' b 27 #[.int .i64 p, .int .i64 q]
    | _ => True) [[26], [27], [28], [29], [30], [31], [32], [33], [9], [9]] [(9, 8)] (fun w' => Below w3.heap.size w3 w') (by kernel_rfl)  ?_ ?_ (fun w' w'' hb h => h.trans (hb.mono h.size)) (Below.refl _ _) ?_ ?_ ?_
  · intro jq xq xq' wqq h hv
    match jq, h, hv with
    | 0, h, hv => show xq' 26 = .pointer (some ⟨w.heap.size, 8, none⟩); rw [← h 26 (by decide)]; exact hv
    | 1, h, hv => show xq' 27 = .slice (some ⟨E0, oo, none⟩) bs.length c; rw [← h 27 (by decide)]; exact hv
    | 2, h, hv => show xq' 28 = .int .i64 (k : Int); rw [← h 28 (by decide)]; exact hv
    | 3, h, hv => show xq' 29 = .pointer (some ⟨E0, oo + k * 4, none⟩); rw [← h 29 (by decide)]; exact hv
    | 4, h, hv => show xq' 30 = .pointer (some ⟨E0, oo + k * 4 + 2, none⟩); rw [← h 30 (by decide)]; exact hv
    | 5, h, hv => show xq' 31 = .agg #[.int .i64 x.lo, .int .i64 x.hi]; rw [← h 31 (by decide)]; exact hv
    | 6, h, hv => show xq' 32 = .agg #[.int .i64 lo, .int .i64 hi]; rw [← h 32 (by decide)]; exact hv
    | 7, h, hv => show xq' 33 = .agg #[.int .i64 p, .int .i64 q]; rw [← h 33 (by decide)]; exact hv
    | 8, h, hv => show ∃ b, xq' 9 = .pointer (some ⟨b, 0, none⟩) ∧ w3.heap.size ≤ b ∧ Holds wqq b 27 #[.int .i64 0, .int .i64 0]; rw [← h 9 (by decide)]; exact hv
    | 9, h, hv => show ∃ b, xq' 9 = .pointer (some ⟨b, 0, none⟩) ∧ w3.heap.size ≤ b ∧ Holds wqq b 27 #[.int .i64 p, .int .i64 q]; rw [← h 9 (by decide)]; exact hv
    | _ + 10, _, _ => trivial
  · intro jq xq wqq w' hb' hv
    match jq, hv with
    | 0, hv => exact hv
    | 1, hv => exact hv
    | 2, hv => exact hv
    | 3, hv => exact hv
    | 4, hv => exact hv
    | 5, hv => exact hv
    | 6, hv => exact hv
    | 7, hv => exact hv
    | 8, ⟨b0, h0, h1, h2⟩ => exact ⟨b0, h0, h1, h2.up hb'⟩
    | 9, ⟨b0, h0, h1, h2⟩ => exact ⟨b0, h0, h1, h2.up hb'⟩
    | _ + 10, _ => trivial
  · intro jq hj
    match jq, hj with
    | 0, hj => exact absurd hj (by decide)
    | 1, hj => exact absurd hj (by decide)
    | 2, hj => exact absurd hj (by decide)
    | 3, hj => exact absurd hj (by decide)
    | 4, hj => exact absurd hj (by decide)
    | 5, hj => exact absurd hj (by decide)
    | 6, hj => exact absurd hj (by decide)
    | 7, hj => exact absurd hj (by decide)
    | 8, hj => exact absurd hj (by decide)
    | 9, hj => exact absurd hj (by decide)
    | _ + 10, _ => trivial
  · refine ⟨?_, ?_, ?_, ?_, ?_, ?_, ?_, ?_, ?_, ?_, trivial⟩
    · intro xq w8 hbq hx K hK0
      have hK := fun v w' hb => hK0 v w' (.inl hb)
      clear hx hKc hK0
      simp only [frameOf, fill, setSlot, List.contains_cons, List.contains_nil, Nat.reduceBEq, Bool.or_false, Bool.false_or, Bool.or_true, Bool.true_or, if_true, if_false, Bool.false_eq_true, Nat.reduceAdd, Nat.reduceEqDiff, List.getD_cons_zero, List.getD_cons_succ, Nat.zero_add, show slotsOf [some 26, some 27, some 28, some 29, some 30, some 31, some 32, some 33, some 9, none] = [26, 27, 28, 29, 30, 31, 32, 33, 9] from rfl] at hK ⊢
      go_wp2_with (fail)
      exact hK _ _ (Below.refl _ _) rfl
    · intro xq w8 hbq hx K hK0
      have hK := fun v w' hb => hK0 v w' (.inl hb)
      have e26 : xq 26 = .pointer (some ⟨w.heap.size, 8, none⟩) := hx 0 (by rfl) (by rfl)
      clear hx hKc hK0
      have q27 : w8.cell? ⟨w.heap.size, 8, none⟩ = some (.slice (some ⟨E0, oo, none⟩) bs.length c) := up_cell hbq kb8
      simp only [frameOf, fill, setSlot, List.contains_cons, List.contains_nil, Nat.reduceBEq, Bool.or_false, Bool.false_or, Bool.or_true, Bool.true_or, if_true, if_false, Bool.false_eq_true, Nat.reduceAdd, Nat.reduceEqDiff, List.getD_cons_zero, List.getD_cons_succ, Nat.zero_add, show slotsOf [some 26, some 27, some 28, some 29, some 30, some 31, some 32, some 33, some 9, none] = [26, 27, 28, 29, 30, 31, 32, 33, 9] from rfl] at hK ⊢
      simp only [e26] at hK ⊢
      clear e26
      go_wp2_with (fail)
      exact hK _ _ (Below.refl _ _) rfl
    · intro xq w8 hbq hx K hK0
      have hK := fun v w' hb => hK0 v w' (.inl hb)
      clear hx hKc hK0
      simp only [frameOf, fill, setSlot, List.contains_cons, List.contains_nil, Nat.reduceBEq, Bool.or_false, Bool.false_or, Bool.or_true, Bool.true_or, if_true, if_false, Bool.false_eq_true, Nat.reduceAdd, Nat.reduceEqDiff, List.getD_cons_zero, List.getD_cons_succ, Nat.zero_add, show slotsOf [some 26, some 27, some 28, some 29, some 30, some 31, some 32, some 33, some 9, none] = [26, 27, 28, 29, 30, 31, 32, 33, 9] from rfl] at hK ⊢
      go_wp2_with (fail)
      exact hK _ _ (Below.refl _ _) rfl
    · intro xq w8 hbq hx K hK0
      have hK := fun v w' hb => hK0 v w' (.inl hb)
      have e27 : xq 27 = .slice (some ⟨E0, oo, none⟩) bs.length c := hx 1 (by rfl) (by rfl)
      have e28 : xq 28 = .int .i64 (k : Int) := hx 2 (by rfl) (by rfl)
      clear hx hKc hK0
      simp only [frameOf, fill, setSlot, List.contains_cons, List.contains_nil, Nat.reduceBEq, Bool.or_false, Bool.false_or, Bool.or_true, Bool.true_or, if_true, if_false, Bool.false_eq_true, Nat.reduceAdd, Nat.reduceEqDiff, List.getD_cons_zero, List.getD_cons_succ, Nat.zero_add, show slotsOf [some 26, some 27, some 28, some 29, some 30, some 31, some 32, some 33, some 9, none] = [26, 27, 28, 29, 30, 31, 32, 33, 9] from rfl] at hK ⊢
      simp only [e27, e28] at hK ⊢
      clear e27 e28
      go_wp2_with (fail)
      exact hK _ _ (Below.refl _ _) rfl
    · intro xq w8 hbq hx K hK0
      have hK := fun v w' hb => hK0 v w' (.inl hb)
      have e29 : xq 29 = .pointer (some ⟨E0, oo + k * 4, none⟩) := hx 3 (by rfl) (by rfl)
      clear hx hKc hK0
      simp only [frameOf, fill, setSlot, List.contains_cons, List.contains_nil, Nat.reduceBEq, Bool.or_false, Bool.false_or, Bool.or_true, Bool.true_or, if_true, if_false, Bool.false_eq_true, Nat.reduceAdd, Nat.reduceEqDiff, List.getD_cons_zero, List.getD_cons_succ, Nat.zero_add, show slotsOf [some 26, some 27, some 28, some 29, some 30, some 31, some 32, some 33, some 9, none] = [26, 27, 28, 29, 30, 31, 32, 33, 9] from rfl] at hK ⊢
      simp only [e29] at hK ⊢
      clear e29
      go_wp2_with (fail)
      exact hK _ _ (Below.refl _ _) rfl
    · intro xq w8 hbq hx K hK0
      have hK := fun v w' hb => hK0 v w' (.inl hb)
      have e30 : xq 30 = .pointer (some ⟨E0, oo + k * 4 + 2, none⟩) := hx 4 (by rfl) (by rfl)
      clear hx hKc hK0
      have q0 := up_cell (HB3.out.trans (hbq.mono hs3)) KE2.out
      have q1 := up_cell (HB3.out.trans (hbq.mono hs3)) KE3.out
      simp only [frameOf, fill, setSlot, List.contains_cons, List.contains_nil, Nat.reduceBEq, Bool.or_false, Bool.false_or, Bool.or_true, Bool.true_or, if_true, if_false, Bool.false_eq_true, Nat.reduceAdd, Nat.reduceEqDiff, List.getD_cons_zero, List.getD_cons_succ, Nat.zero_add, show slotsOf [some 26, some 27, some 28, some 29, some 30, some 31, some 32, some 33, some 9, none] = [26, 27, 28, 29, 30, 31, 32, 33, 9] from rfl] at hK ⊢
      simp only [e30] at hK ⊢
      clear e30
      go_wp2_with (fail)
      exact hK _ _ (Below.refl _ _) rfl
    · intro xq w8 hbq hx K hK0
      have hK := fun v w' hb => hK0 v w' (.inl hb)
      clear hx hKc hK0
      have q0 : w8.cell? ⟨w.heap.size + 1, 0, none⟩ = some (.int .i64 lo) := up_cell hbq kd0
      have q1 : w8.cell? ⟨w.heap.size + 1, 1, none⟩ = some (.int .i64 hi) := up_cell hbq kd1
      simp only [frameOf, fill, setSlot, List.contains_cons, List.contains_nil, Nat.reduceBEq, Bool.or_false, Bool.false_or, Bool.or_true, Bool.true_or, if_true, if_false, Bool.false_eq_true, Nat.reduceAdd, Nat.reduceEqDiff, List.getD_cons_zero, List.getD_cons_succ, Nat.zero_add, show slotsOf [some 26, some 27, some 28, some 29, some 30, some 31, some 32, some 33, some 9, none] = [26, 27, 28, 29, 30, 31, 32, 33, 9] from rfl] at hK ⊢
      go_wp2_with (fail)
      exact hK _ _ (Below.refl _ _) rfl
    · intro xq w8 hbq hx K hK0
      have hK := fun v w' hb => hK0 v w' (.inl hb)
      have e31 : xq 31 = .agg #[.int .i64 x.lo, .int .i64 x.hi] := hx 5 (by rfl) (by rfl)
      have e32 : xq 32 = .agg #[.int .i64 lo, .int .i64 hi] := hx 6 (by rfl) (by rfl)
      clear hx hKc hK0
      simp only [frameOf, fill, setSlot, List.contains_cons, List.contains_nil, Nat.reduceBEq, Bool.or_false, Bool.false_or, Bool.or_true, Bool.true_or, if_true, if_false, Bool.false_eq_true, Nat.reduceAdd, Nat.reduceEqDiff, List.getD_cons_zero, List.getD_cons_succ, Nat.zero_add, show slotsOf [some 26, some 27, some 28, some 29, some 30, some 31, some 32, some 33, some 9, none] = [26, 27, 28, 29, 30, 31, 32, 33, 9] from rfl] at hK ⊢
      simp only [e31, e32] at hK ⊢
      clear e31 e32
      go_wp2_with (go_at_call 64; refine (meet_any x.lo x.hi lo hi _).mono ?_; rw [HP.out, HQ.out]; rintro e w2_ ⟨rfl, hb_⟩)
      exact hK _ _ hb_ rfl
    · intro xq w8 hbq hx K hK0
      have hK := fun v w' hb => hK0 v w' (.inl hb)
      clear hx hKc hK0
      simp only [frameOf, fill, setSlot, List.contains_cons, List.contains_nil, Nat.reduceBEq, Bool.or_false, Bool.false_or, Bool.or_true, Bool.true_or, if_true, if_false, Bool.false_eq_true, Nat.reduceAdd, Nat.reduceEqDiff, List.getD_cons_zero, List.getD_cons_succ, Nat.zero_add, show slotsOf [some 26, some 27, some 28, some 29, some 30, some 31, some 32, some 33, some 9, none] = [26, 27, 28, 29, 30, 31, 32, 33, 9] from rfl] at hK ⊢
      go_wp2_with (fail)
      exact hK _ _ ((Below.refl _ _).alloc (Nat.le_refl _) _) ⟨_, rfl, hbq.size, Holds.new _ _ _⟩
    · intro xq w8 hbq hx K hK0
      have hK := fun v w' hb => hK0 v w' (.inr hb)
      have e33 : xq 33 = .agg #[.int .i64 p, .int .i64 q] := hx 7 (by rfl) (by rfl)
      obtain ⟨b9, e9, f9_0, f9_1⟩ := hx 8 (by rfl) (by rfl)
      clear hx hKc hK0
      have ka0 : w8.cell? ⟨b9, 0, none⟩ = some (.int .i64 0) := f9_1.cell 0
      have ka1 : w8.cell? ⟨b9, 1, none⟩ = some (.int .i64 0) := f9_1.cell 1
      have za0 : w8.frozen? ⟨b9, 0, none⟩ = false := f9_1.frozen 0
      have za1 : w8.frozen? ⟨b9, 1, none⟩ = false := f9_1.frozen 1
      have lt9 := f9_1.lt
      simp only [frameOf, fill, setSlot, List.contains_cons, List.contains_nil, Nat.reduceBEq, Bool.or_false, Bool.false_or, Bool.or_true, Bool.true_or, if_true, if_false, Bool.false_eq_true, Nat.reduceAdd, Nat.reduceEqDiff, List.getD_cons_zero, List.getD_cons_succ, Nat.zero_add, show slotsOf [some 26, some 27, some 28, some 29, some 30, some 31, some 32, some 33, some 9, none] = [26, 27, 28, 29, 30, 31, 32, 33, 9] from rfl] at hK ⊢
      have E33 := Lib.hid e33
      have E9 := Lib.hid e9
      simp only [e33, e9] at hK ⊢
      clear e33 e9
      go_wp2_with (fail)
      refine hK undef _ ⟨(by have h := hbq; exact (by (repeat' (first | (with_reducible exact Below.refl _ _) | (with_reducible assumption) | (with_reducible refine Below.alloc ?_ ?_ _) | (with_reducible refine Below.drew ?_) | (with_reducible refine Below.setCell ?_ ?_ _) | (with_reducible exact Nat.le_refl _) | omega | (simp only [World.size_alloc, World.size_setCell, World.size_drew]; omega) | (simp; omega) | (simp; done))))), ?_⟩ ⟨_, rfl, f9_0, Holds.set2 _ _ f9_1⟩
      intro jq xq hd hne hv
      match jq, hd, hne, hv with
      | 0, _, _, hv => exact hv
      | 1, _, _, hv => exact hv
      | 2, _, _, hv => exact hv
      | 3, _, _, hv => exact hv
      | 4, _, _, hv => exact hv
      | 5, _, _, hv => exact hv
      | 6, _, _, hv => exact hv
      | 7, _, _, hv => exact hv
      | 8, hd, _, _ => exact absurd hd (by decide)
      | 9, _, hne, _ => exact absurd rfl hne
      | _ + 10, _, _, _ => trivial
  · intro xq w8 hbq hx
    have e26 : xq 26 = .pointer (some ⟨w.heap.size, 8, none⟩) := hx 0 (by decide)
    have e27 : xq 27 = .slice (some ⟨E0, oo, none⟩) bs.length c := hx 1 (by decide)
    have e28 : xq 28 = .int .i64 (k : Int) := hx 2 (by decide)
    have e29 : xq 29 = .pointer (some ⟨E0, oo + k * 4, none⟩) := hx 3 (by decide)
    have e30 : xq 30 = .pointer (some ⟨E0, oo + k * 4 + 2, none⟩) := hx 4 (by decide)
    have e31 : xq 31 = .agg #[.int .i64 x.lo, .int .i64 x.hi] := hx 5 (by decide)
    have e32 : xq 32 = .agg #[.int .i64 lo, .int .i64 hi] := hx 6 (by decide)
    have e33 : xq 33 = .agg #[.int .i64 p, .int .i64 q] := hx 7 (by decide)
    obtain ⟨bn9, fn9_0, fn9_1, fn9_2⟩ := hx 9 (by decide)
    clear hx
    simp only [frameOf, fill, setSlot, List.contains_cons, List.contains_nil, Nat.reduceBEq, Bool.or_false, Bool.false_or, Bool.or_true, Bool.true_or, if_true, if_false, Bool.false_eq_true, Nat.reduceAdd, Nat.reduceEqDiff, List.getD_cons_zero, List.getD_cons_succ, Nat.zero_add, show slotsOf [some 26, some 27, some 28, some 29, some 30, some 31, some 32, some 33, some 9, none] = [26, 27, 28, 29, 30, 31, 32, 33, 9] from rfl]
    simp only [e26, e27, e28, e29, e30, e31, e32, e33, fn9_0]
    clear e26 e27 e28 e29 e30 e31 e32 e33 fn9_0
    refine hKc _ _ ?_
    have HS8 := Lib.hid hbq
    have HB8 := Lib.hid (HB3.out.trans (hbq.mono hs3))
    have hs8 := HB8.out.size
    have hst8 := hbq.size
    have Hm8 := Lib.hid fn9_2
    have HA8 := Lib.hid (HA3.out.up hbq)
    have Hb8 := Lib.hid (Hb3.out.up hbq)
    have Hd8 := Lib.hid (Hd3.out.up hbq)
    have Hr8 := Lib.hid (Hr3.out.up hbq)
    clear hbq fn9_2
    clear kb0 kb1 kb2 kb3 kb4 kb5 kb6 kb7 kb8 lt_b kd0 kd1 lt_d kr0 kr1 kr2 kr3 kr4 kr5 kr6 kr7 kr8 zr0 zr1 zr2 zr3 zr4 zr5 zr6 zr7 zr8 lt_r
    have kb0 : w8.cell? ⟨w.heap.size, 0, none⟩ = some (.int .i64 b.cool) := Hb8.out.cell 0
    have kb1 : w8.cell? ⟨w.heap.size, 1, none⟩ = some (.int .i64 b.gangs) := Hb8.out.cell 1
    have kb2 : w8.cell? ⟨w.heap.size, 2, none⟩ = some (.int .i64 b.r0) := Hb8.out.cell 2
    have kb3 : w8.cell? ⟨w.heap.size, 3, none⟩ = some (.int .i64 b.r1) := Hb8.out.cell 3
    have kb4 : w8.cell? ⟨w.heap.size, 4, none⟩ = some (.int .i64 b.r2) := Hb8.out.cell 4
    have kb5 : w8.cell? ⟨w.heap.size, 5, none⟩ = some (.int .i64 b.r3) := Hb8.out.cell 5
    have kb6 : w8.cell? ⟨w.heap.size, 6, none⟩ = some (.int .i64 b.r4) := Hb8.out.cell 6
    have kb7 : w8.cell? ⟨w.heap.size, 7, none⟩ = some (.int .i64 b.r5) := Hb8.out.cell 7
    have kb8 : w8.cell? ⟨w.heap.size, 8, none⟩ = some (.slice (some ⟨E0, oo, none⟩) bs.length c) := Hb8.out.cell 8
    have lt_b : w.heap.size < w8.heap.size := Hb8.out.lt
    have km0 : w8.cell? ⟨bn9, 0, none⟩ = some (.int .i64 p) := Hm8.out.cell 0
    have km1 : w8.cell? ⟨bn9, 1, none⟩ = some (.int .i64 q) := Hm8.out.cell 1
    have lt_m : bn9 < w8.heap.size := Hm8.out.lt
    have kr0 : w8.cell? ⟨w.heap.size + 1 + 1, 0, none⟩ = some (.int .i64 0) := Hr8.out.cell 0
    have kr1 : w8.cell? ⟨w.heap.size + 1 + 1, 1, none⟩ = some (.int .i64 0) := Hr8.out.cell 1
    have kr2 : w8.cell? ⟨w.heap.size + 1 + 1, 2, none⟩ = some (.int .i64 0) := Hr8.out.cell 2
    have kr3 : w8.cell? ⟨w.heap.size + 1 + 1, 3, none⟩ = some (.int .i64 0) := Hr8.out.cell 3
    have kr4 : w8.cell? ⟨w.heap.size + 1 + 1, 4, none⟩ = some (.int .i64 0) := Hr8.out.cell 4
    have kr5 : w8.cell? ⟨w.heap.size + 1 + 1, 5, none⟩ = some (.int .i64 0) := Hr8.out.cell 5
    have kr6 : w8.cell? ⟨w.heap.size + 1 + 1, 6, none⟩ = some (.int .i64 0) := Hr8.out.cell 6
    have kr7 : w8.cell? ⟨w.heap.size + 1 + 1, 7, none⟩ = some (.int .i64 0) := Hr8.out.cell 7
    have kr8 : w8.cell? ⟨w.heap.size + 1 + 1, 8, none⟩ = some (.slice none 0 0) := Hr8.out.cell 8
    have zr0 : w8.frozen? ⟨w.heap.size + 1 + 1, 0, none⟩ = false := Hr8.out.frozen 0
    have zr1 : w8.frozen? ⟨w.heap.size + 1 + 1, 1, none⟩ = false := Hr8.out.frozen 1
    have zr2 : w8.frozen? ⟨w.heap.size + 1 + 1, 2, none⟩ = false := Hr8.out.frozen 2
    have zr3 : w8.frozen? ⟨w.heap.size + 1 + 1, 3, none⟩ = false := Hr8.out.frozen 3
    have zr4 : w8.frozen? ⟨w.heap.size + 1 + 1, 4, none⟩ = false := Hr8.out.frozen 4
    have zr5 : w8.frozen? ⟨w.heap.size + 1 + 1, 5, none⟩ = false := Hr8.out.frozen 5
    have zr6 : w8.frozen? ⟨w.heap.size + 1 + 1, 6, none⟩ = false := Hr8.out.frozen 6
    have zr7 : w8.frozen? ⟨w.heap.size + 1 + 1, 7, none⟩ = false := Hr8.out.frozen 7
    have zr8 : w8.frozen? ⟨w.heap.size + 1 + 1, 8, none⟩ = false := Hr8.out.frozen 8
    have lt_r : w.heap.size + 1 + 1 < w8.heap.size := Hr8.out.lt
    go_wp2_with fail
    refine (isEmpty_any p q _).mono ?_
    rw [HM.out]
    rintro e w4 ⟨rfl, hb4⟩
    have Hb4 := Lib.hid (Holds.up (by have h := Hb8.out; exact (by (repeat first | (with_reducible assumption) | (with_reducible apply Holds.set9) | (with_reducible apply Holds.set4) | (with_reducible apply Holds.set2) | (with_reducible apply Holds.putL) | ((with_reducible refine Holds.new' _ _ ?_); (simp; done)) | (with_reducible refine Holds.alloc ?_ _) | (with_reducible refine Holds.drew ?_) | ((with_reducible refine Holds.far ?_ (by simp only [ne_eq]; omega) _)) | rfl)) : Holds _ (w.heap.size) 25 #[.int .i64 b.cool, .int .i64 b.gangs, .int .i64 b.r0, .int .i64 b.r1, .int .i64 b.r2, .int .i64 b.r3, .int .i64 b.r4, .int .i64 b.r5, .slice (some ⟨E0, oo, none⟩) bs.length c]) hb4)
    have Hd4 := Lib.hid (Holds.up (by have h := Hd8.out; exact (by (repeat first | (with_reducible assumption) | (with_reducible apply Holds.set9) | (with_reducible apply Holds.set4) | (with_reducible apply Holds.set2) | (with_reducible apply Holds.putL) | ((with_reducible refine Holds.new' _ _ ?_); (simp; done)) | (with_reducible refine Holds.alloc ?_ _) | (with_reducible refine Holds.drew ?_) | ((with_reducible refine Holds.far ?_ (by simp only [ne_eq]; omega) _)) | rfl)) : Holds _ (w.heap.size + 1) 27 #[.int .i64 lo, .int .i64 hi]) hb4)
    have Hr4 := Lib.hid (Holds.up (by have h := Hr8.out; exact (by (repeat first | (with_reducible assumption) | (with_reducible apply Holds.set9) | (with_reducible apply Holds.set4) | (with_reducible apply Holds.set2) | (with_reducible apply Holds.putL) | ((with_reducible refine Holds.new' _ _ ?_); (simp; done)) | (with_reducible refine Holds.alloc ?_ _) | (with_reducible refine Holds.drew ?_) | ((with_reducible refine Holds.far ?_ (by simp only [ne_eq]; omega) _)) | rfl)) : Holds _ (w.heap.size + 1 + 1) 25 #[.int .i64 0, .int .i64 0, .int .i64 0, .int .i64 0, .int .i64 0, .int .i64 0, .int .i64 0, .int .i64 0, .slice none 0 0]) hb4)
    have Hm4 := Lib.hid (Holds.up (by have h := Hm8.out; exact (by (repeat first | (with_reducible assumption) | (with_reducible apply Holds.set9) | (with_reducible apply Holds.set4) | (with_reducible apply Holds.set2) | (with_reducible apply Holds.putL) | ((with_reducible refine Holds.new' _ _ ?_); (simp; done)) | (with_reducible refine Holds.alloc ?_ _) | (with_reducible refine Holds.drew ?_) | ((with_reducible refine Holds.far ?_ (by simp only [ne_eq]; omega) _)) | rfl)) : Holds _ (bn9) 27 #[.int .i64 p, .int .i64 q]) hb4)
    have HS4 : Hid (Below w8.heap.size w8 w4) := Lib.hid (Below.trans (by (repeat' (first | (with_reducible exact Below.refl _ _) | (with_reducible assumption) | (with_reducible refine Below.alloc ?_ ?_ _) | (with_reducible refine Below.drew ?_) | (with_reducible refine Below.setCell ?_ ?_ _) | (with_reducible exact Nat.le_refl _) | omega | (simp only [World.size_alloc, World.size_setCell, World.size_drew]; omega) | (simp; omega) | (simp; done)))) (hb4.mono (by first | exact Nat.le_refl _ | omega | (simp; done) | (simp; omega))))
    have HB4 : Hid (Below w.heap.size w w4) := Lib.hid (HB8.out.trans (HS4.out.mono hs8))
    have hs4 := HB4.out.size
    have hst4 := HS4.out.size
    have HA4 := Lib.hid (HA8.out.up HS4.out)
    clear hb4
    clear kb0 kb1 kb2 kb3 kb4 kb5 kb6 kb7 kb8 lt_b km0 km1 lt_m kr0 kr1 kr2 kr3 kr4 kr5 kr6 kr7 kr8 zr0 zr1 zr2 zr3 zr4 zr5 zr6 zr7 zr8 lt_r
    have kb0 : w4.cell? ⟨w.heap.size, 0, none⟩ = some (.int .i64 b.cool) := Hb4.out.cell 0
    have kb1 : w4.cell? ⟨w.heap.size, 1, none⟩ = some (.int .i64 b.gangs) := Hb4.out.cell 1
    have kb2 : w4.cell? ⟨w.heap.size, 2, none⟩ = some (.int .i64 b.r0) := Hb4.out.cell 2
    have kb3 : w4.cell? ⟨w.heap.size, 3, none⟩ = some (.int .i64 b.r1) := Hb4.out.cell 3
    have kb4 : w4.cell? ⟨w.heap.size, 4, none⟩ = some (.int .i64 b.r2) := Hb4.out.cell 4
    have kb5 : w4.cell? ⟨w.heap.size, 5, none⟩ = some (.int .i64 b.r3) := Hb4.out.cell 5
    have kb6 : w4.cell? ⟨w.heap.size, 6, none⟩ = some (.int .i64 b.r4) := Hb4.out.cell 6
    have kb7 : w4.cell? ⟨w.heap.size, 7, none⟩ = some (.int .i64 b.r5) := Hb4.out.cell 7
    have kb8 : w4.cell? ⟨w.heap.size, 8, none⟩ = some (.slice (some ⟨E0, oo, none⟩) bs.length c) := Hb4.out.cell 8
    have zb0 : w4.frozen? ⟨w.heap.size, 0, none⟩ = false := Hb4.out.frozen 0
    have zb1 : w4.frozen? ⟨w.heap.size, 1, none⟩ = false := Hb4.out.frozen 1
    have zb2 : w4.frozen? ⟨w.heap.size, 2, none⟩ = false := Hb4.out.frozen 2
    have zb3 : w4.frozen? ⟨w.heap.size, 3, none⟩ = false := Hb4.out.frozen 3
    have zb4 : w4.frozen? ⟨w.heap.size, 4, none⟩ = false := Hb4.out.frozen 4
    have zb5 : w4.frozen? ⟨w.heap.size, 5, none⟩ = false := Hb4.out.frozen 5
    have zb6 : w4.frozen? ⟨w.heap.size, 6, none⟩ = false := Hb4.out.frozen 6
    have zb7 : w4.frozen? ⟨w.heap.size, 7, none⟩ = false := Hb4.out.frozen 7
    have zb8 : w4.frozen? ⟨w.heap.size, 8, none⟩ = false := Hb4.out.frozen 8
    have lt_b : w.heap.size < w4.heap.size := Hb4.out.lt
    have km0 : w4.cell? ⟨bn9, 0, none⟩ = some (.int .i64 p) := Hm4.out.cell 0
    have km1 : w4.cell? ⟨bn9, 1, none⟩ = some (.int .i64 q) := Hm4.out.cell 1
    have lt_m : bn9 < w4.heap.size := Hm4.out.lt
    have kr0 : w4.cell? ⟨w.heap.size + 1 + 1, 0, none⟩ = some (.int .i64 0) := Hr4.out.cell 0
    have kr1 : w4.cell? ⟨w.heap.size + 1 + 1, 1, none⟩ = some (.int .i64 0) := Hr4.out.cell 1
    have kr2 : w4.cell? ⟨w.heap.size + 1 + 1, 2, none⟩ = some (.int .i64 0) := Hr4.out.cell 2
    have kr3 : w4.cell? ⟨w.heap.size + 1 + 1, 3, none⟩ = some (.int .i64 0) := Hr4.out.cell 3
    have kr4 : w4.cell? ⟨w.heap.size + 1 + 1, 4, none⟩ = some (.int .i64 0) := Hr4.out.cell 4
    have kr5 : w4.cell? ⟨w.heap.size + 1 + 1, 5, none⟩ = some (.int .i64 0) := Hr4.out.cell 5
    have kr6 : w4.cell? ⟨w.heap.size + 1 + 1, 6, none⟩ = some (.int .i64 0) := Hr4.out.cell 6
    have kr7 : w4.cell? ⟨w.heap.size + 1 + 1, 7, none⟩ = some (.int .i64 0) := Hr4.out.cell 7
    have kr8 : w4.cell? ⟨w.heap.size + 1 + 1, 8, none⟩ = some (.slice none 0 0) := Hr4.out.cell 8
    have zr0 : w4.frozen? ⟨w.heap.size + 1 + 1, 0, none⟩ = false := Hr4.out.frozen 0
    have zr1 : w4.frozen? ⟨w.heap.size + 1 + 1, 1, none⟩ = false := Hr4.out.frozen 1
    have zr2 : w4.frozen? ⟨w.heap.size + 1 + 1, 2, none⟩ = false := Hr4.out.frozen 2
    have zr3 : w4.frozen? ⟨w.heap.size + 1 + 1, 3, none⟩ = false := Hr4.out.frozen 3
    have zr4 : w4.frozen? ⟨w.heap.size + 1 + 1, 4, none⟩ = false := Hr4.out.frozen 4
    have zr5 : w4.frozen? ⟨w.heap.size + 1 + 1, 5, none⟩ = false := Hr4.out.frozen 5
    have zr6 : w4.frozen? ⟨w.heap.size + 1 + 1, 6, none⟩ = false := Hr4.out.frozen 6
    have zr7 : w4.frozen? ⟨w.heap.size + 1 + 1, 7, none⟩ = false := Hr4.out.frozen 7
    have zr8 : w4.frozen? ⟨w.heap.size + 1 + 1, 8, none⟩ = false := Hr4.out.frozen 8
    have lt_r : w.heap.size + 1 + 1 < w4.heap.size := Hr4.out.lt
    go_wp2_with fail
    refine ret_cell2 (t := 25) (cs := #[.int .i64 0, .int .i64 0, .int .i64 0, .int .i64 0, .int .i64 0, .int .i64 0, .int .i64 0, .int .i64 0, .slice none 0 0]) rfl rfl rfl (Holds.set9 _ _ _ _ _ _ _ _ _ Hr4.out) Try.underlying25 rfl (by kernel_rfl) rfl ⟨rfl, HB4.out.trans (by (repeat' (first | (with_reducible exact Below.refl _ _) | (with_reducible assumption) | (with_reducible refine Below.alloc ?_ ?_ _) | (with_reducible refine Below.drew ?_) | (with_reducible refine Below.setCell ?_ ?_ _) | (with_reducible exact Nat.le_refl _) | omega | (simp only [World.size_alloc, World.size_setCell, World.size_drew]; omega) | (simp; omega) | (simp; done))))⟩
set_option maxRecDepth 100000 in
set_option maxHeartbeats 4000000 in
theorem Sample_ok (b : Br) (A : Option Addr) (c : Nat) (bs : List Bn) (w : World) (hA : BinsAt w A bs) (hl : bs.length ≤ 1000) (lo hi : Int) (hE : barnErr b bs = 0) (k : Nat) (x : Bn) (hx : bs[k]? = some x) (hc : (within lo 0 5 && within hi 0 5) = true) (ho : decide (hi < lo) = false) (hm : decide (min x.hi hi < max x.lo lo) = false) :
    Calls Try.prog 20 #[.agg #[.int .i64 b.cool, .int .i64 b.gangs, .int .i64 b.r0, .int .i64 b.r1, .int .i64 b.r2, .int .i64 b.r3, .int .i64 b.r4, .int .i64 b.r5, .slice A bs.length c], .int .i64 (k : Int), .agg #[.int .i64 lo, .int .i64 hi]] w fun e w' => ∃ B, e = .returned (.tuple #[.agg #[.int .i64 b.cool, .int .i64 b.gangs, .int .i64 b.r0, .int .i64 b.r1, .int .i64 b.r2, .int .i64 b.r3, .int .i64 b.r4, .int .i64 b.r5, .slice (some ⟨B, 0, none⟩) bs.length bs.length], .int .i64 0]) ∧ Holds w' B 39 ((bs.set k ⟨x.warm, x.mark, max x.lo lo, min x.hi hi⟩).flatMap Bn.cells).toArray ∧ w.heap.size ≤ B ∧ Below w.heap.size w w' := by
  have hin : within (k : Int) 0 ((bs.length : Int) - 1) = true := by simp only [within, Bool.and_eq_true, decide_eq_true_eq]; have := (List.getElem?_eq_some_iff.1 hx).1; omega
  have HE := Lib.hid (binErr_ok hE hin)
  have HX := Lib.hid hx
  obtain ⟨E0, oo, rfl, hcell⟩ := hA (by have := (List.getElem?_eq_some_iff.1 hx).1; omega)
  have hk : k < bs.length := (List.getElem?_eq_some_iff.1 hx).1
  have hk' : (k : Int) < bs.length := by omega
  have KE2 : Hid (w.cell? ⟨E0, oo + k * 4 + 2, none⟩ = some (.int .i64 x.lo)) := Lib.hid (hcell k x hx 2 _ rfl)
  have KE3 : Hid (w.cell? ⟨E0, oo + k * 4 + 2 + 1, none⟩ = some (.int .i64 x.hi)) := Lib.hid (hcell k x hx 3 _ rfl)
  have lE : E0 < w.heap.size := World.block_lt_of_cell? w _ KE2.out
  clear hcell
  obtain ⟨p, hp⟩ : ∃ z, max x.lo lo = z := ⟨_, rfl⟩
  obtain ⟨q, hq⟩ : ∃ z, min x.hi hi = z := ⟨_, rfl⟩
  rw [hp, hq] at hm
  rw [hp, hq]
  have HP := Lib.hid hp
  have HQ := Lib.hid hq
  clear hp hq
  have HC := Lib.hid hc
  have HOO := Lib.hid ho
  have HM := Lib.hid hm
  clear hin hx hE hc ho hm
  have HA := Lib.hid hA
  clear hA
  go_enter Try.func20, Try.ntmps20
  go_wp2_with fail
  refine (checkBin_any b (some ⟨E0, oo, none⟩) c bs (k : Int) _ (HA.out.up (by (repeat' (first | (with_reducible exact Below.refl _ _) | (with_reducible assumption) | (with_reducible refine Below.alloc ?_ ?_ _) | (with_reducible refine Below.drew ?_) | (with_reducible refine Below.setCell ?_ ?_ _) | (with_reducible exact Nat.le_refl _) | omega | (simp only [World.size_alloc, World.size_setCell, World.size_drew]; omega) | (simp; omega) | (simp; done))))) hl).mono ?_
  rw [HE.out]
  rintro e w1 ⟨rfl, hb1⟩
  have Hb1 := Lib.hid (Holds.up (by (repeat first | (with_reducible assumption) | (with_reducible apply Holds.set9) | (with_reducible apply Holds.set4) | (with_reducible apply Holds.set2) | (with_reducible apply Holds.putL) | ((with_reducible refine Holds.new' _ _ ?_); (simp; done)) | (with_reducible refine Holds.alloc ?_ _) | (with_reducible refine Holds.drew ?_) | ((with_reducible refine Holds.far ?_ (by simp only [ne_eq]; omega) _)) | rfl) : Holds _ (w.heap.size) 25 #[.int .i64 b.cool, .int .i64 b.gangs, .int .i64 b.r0, .int .i64 b.r1, .int .i64 b.r2, .int .i64 b.r3, .int .i64 b.r4, .int .i64 b.r5, .slice (some ⟨E0, oo, none⟩) bs.length c]) hb1)
  have Hd1 := Lib.hid (Holds.up (by (repeat first | (with_reducible assumption) | (with_reducible apply Holds.set9) | (with_reducible apply Holds.set4) | (with_reducible apply Holds.set2) | (with_reducible apply Holds.putL) | ((with_reducible refine Holds.new' _ _ ?_); (simp; done)) | (with_reducible refine Holds.alloc ?_ _) | (with_reducible refine Holds.drew ?_) | ((with_reducible refine Holds.far ?_ (by simp only [ne_eq]; omega) _)) | rfl) : Holds _ (w.heap.size + 1) 27 #[.int .i64 lo, .int .i64 hi]) hb1)
  have Hr1 := Lib.hid (Holds.up (by (repeat first | (with_reducible assumption) | (with_reducible apply Holds.set9) | (with_reducible apply Holds.set4) | (with_reducible apply Holds.set2) | (with_reducible apply Holds.putL) | ((with_reducible refine Holds.new' _ _ ?_); (simp; done)) | (with_reducible refine Holds.alloc ?_ _) | (with_reducible refine Holds.drew ?_) | ((with_reducible refine Holds.far ?_ (by simp only [ne_eq]; omega) _)) | rfl) : Holds _ (w.heap.size + 1 + 1) 25 #[.int .i64 0, .int .i64 0, .int .i64 0, .int .i64 0, .int .i64 0, .int .i64 0, .int .i64 0, .int .i64 0, .slice none 0 0]) hb1)
  have HS1 : Hid (Below w.heap.size w w1) := Lib.hid (Below.trans (by (repeat' (first | (with_reducible exact Below.refl _ _) | (with_reducible assumption) | (with_reducible refine Below.alloc ?_ ?_ _) | (with_reducible refine Below.drew ?_) | (with_reducible refine Below.setCell ?_ ?_ _) | (with_reducible exact Nat.le_refl _) | omega | (simp only [World.size_alloc, World.size_setCell, World.size_drew]; omega) | (simp; omega) | (simp; done)))) (hb1.mono (by first | exact Nat.le_refl _ | omega | (simp; done) | (simp; omega))))
  have HB1 := HS1
  have hs1 := HB1.out.size
  have hst1 := HS1.out.size
  have HA1 := Lib.hid (HA.out.up HS1.out)
  clear hb1
  have kb0 : w1.cell? ⟨w.heap.size, 0, none⟩ = some (.int .i64 b.cool) := Hb1.out.cell 0
  have kb1 : w1.cell? ⟨w.heap.size, 1, none⟩ = some (.int .i64 b.gangs) := Hb1.out.cell 1
  have kb2 : w1.cell? ⟨w.heap.size, 2, none⟩ = some (.int .i64 b.r0) := Hb1.out.cell 2
  have kb3 : w1.cell? ⟨w.heap.size, 3, none⟩ = some (.int .i64 b.r1) := Hb1.out.cell 3
  have kb4 : w1.cell? ⟨w.heap.size, 4, none⟩ = some (.int .i64 b.r2) := Hb1.out.cell 4
  have kb5 : w1.cell? ⟨w.heap.size, 5, none⟩ = some (.int .i64 b.r3) := Hb1.out.cell 5
  have kb6 : w1.cell? ⟨w.heap.size, 6, none⟩ = some (.int .i64 b.r4) := Hb1.out.cell 6
  have kb7 : w1.cell? ⟨w.heap.size, 7, none⟩ = some (.int .i64 b.r5) := Hb1.out.cell 7
  have kb8 : w1.cell? ⟨w.heap.size, 8, none⟩ = some (.slice (some ⟨E0, oo, none⟩) bs.length c) := Hb1.out.cell 8
  have lt_b : w.heap.size < w1.heap.size := Hb1.out.lt
  have kd0 : w1.cell? ⟨w.heap.size + 1, 0, none⟩ = some (.int .i64 lo) := Hd1.out.cell 0
  have kd1 : w1.cell? ⟨w.heap.size + 1, 1, none⟩ = some (.int .i64 hi) := Hd1.out.cell 1
  have lt_d : w.heap.size + 1 < w1.heap.size := Hd1.out.lt
  have kr0 : w1.cell? ⟨w.heap.size + 1 + 1, 0, none⟩ = some (.int .i64 0) := Hr1.out.cell 0
  have kr1 : w1.cell? ⟨w.heap.size + 1 + 1, 1, none⟩ = some (.int .i64 0) := Hr1.out.cell 1
  have kr2 : w1.cell? ⟨w.heap.size + 1 + 1, 2, none⟩ = some (.int .i64 0) := Hr1.out.cell 2
  have kr3 : w1.cell? ⟨w.heap.size + 1 + 1, 3, none⟩ = some (.int .i64 0) := Hr1.out.cell 3
  have kr4 : w1.cell? ⟨w.heap.size + 1 + 1, 4, none⟩ = some (.int .i64 0) := Hr1.out.cell 4
  have kr5 : w1.cell? ⟨w.heap.size + 1 + 1, 5, none⟩ = some (.int .i64 0) := Hr1.out.cell 5
  have kr6 : w1.cell? ⟨w.heap.size + 1 + 1, 6, none⟩ = some (.int .i64 0) := Hr1.out.cell 6
  have kr7 : w1.cell? ⟨w.heap.size + 1 + 1, 7, none⟩ = some (.int .i64 0) := Hr1.out.cell 7
  have kr8 : w1.cell? ⟨w.heap.size + 1 + 1, 8, none⟩ = some (.slice none 0 0) := Hr1.out.cell 8
  have zr0 : w1.frozen? ⟨w.heap.size + 1 + 1, 0, none⟩ = false := Hr1.out.frozen 0
  have zr1 : w1.frozen? ⟨w.heap.size + 1 + 1, 1, none⟩ = false := Hr1.out.frozen 1
  have zr2 : w1.frozen? ⟨w.heap.size + 1 + 1, 2, none⟩ = false := Hr1.out.frozen 2
  have zr3 : w1.frozen? ⟨w.heap.size + 1 + 1, 3, none⟩ = false := Hr1.out.frozen 3
  have zr4 : w1.frozen? ⟨w.heap.size + 1 + 1, 4, none⟩ = false := Hr1.out.frozen 4
  have zr5 : w1.frozen? ⟨w.heap.size + 1 + 1, 5, none⟩ = false := Hr1.out.frozen 5
  have zr6 : w1.frozen? ⟨w.heap.size + 1 + 1, 6, none⟩ = false := Hr1.out.frozen 6
  have zr7 : w1.frozen? ⟨w.heap.size + 1 + 1, 7, none⟩ = false := Hr1.out.frozen 7
  have zr8 : w1.frozen? ⟨w.heap.size + 1 + 1, 8, none⟩ = false := Hr1.out.frozen 8
  have lt_r : w.heap.size + 1 + 1 < w1.heap.size := Hr1.out.lt
  go_wp2_with fail
  refine (hasClasses_any lo hi _).mono ?_
  rw [HC.out]
  rintro e w2 ⟨rfl, hb2⟩
  have Hb2 := Lib.hid (Holds.up (by have h := Hb1.out; exact (by (repeat first | (with_reducible assumption) | (with_reducible apply Holds.set9) | (with_reducible apply Holds.set4) | (with_reducible apply Holds.set2) | (with_reducible apply Holds.putL) | ((with_reducible refine Holds.new' _ _ ?_); (simp; done)) | (with_reducible refine Holds.alloc ?_ _) | (with_reducible refine Holds.drew ?_) | ((with_reducible refine Holds.far ?_ (by simp only [ne_eq]; omega) _)) | rfl)) : Holds _ (w.heap.size) 25 #[.int .i64 b.cool, .int .i64 b.gangs, .int .i64 b.r0, .int .i64 b.r1, .int .i64 b.r2, .int .i64 b.r3, .int .i64 b.r4, .int .i64 b.r5, .slice (some ⟨E0, oo, none⟩) bs.length c]) hb2)
  have Hd2 := Lib.hid (Holds.up (by have h := Hd1.out; exact (by (repeat first | (with_reducible assumption) | (with_reducible apply Holds.set9) | (with_reducible apply Holds.set4) | (with_reducible apply Holds.set2) | (with_reducible apply Holds.putL) | ((with_reducible refine Holds.new' _ _ ?_); (simp; done)) | (with_reducible refine Holds.alloc ?_ _) | (with_reducible refine Holds.drew ?_) | ((with_reducible refine Holds.far ?_ (by simp only [ne_eq]; omega) _)) | rfl)) : Holds _ (w.heap.size + 1) 27 #[.int .i64 lo, .int .i64 hi]) hb2)
  have Hr2 := Lib.hid (Holds.up (by have h := Hr1.out; exact (by (repeat first | (with_reducible assumption) | (with_reducible apply Holds.set9) | (with_reducible apply Holds.set4) | (with_reducible apply Holds.set2) | (with_reducible apply Holds.putL) | ((with_reducible refine Holds.new' _ _ ?_); (simp; done)) | (with_reducible refine Holds.alloc ?_ _) | (with_reducible refine Holds.drew ?_) | ((with_reducible refine Holds.far ?_ (by simp only [ne_eq]; omega) _)) | rfl)) : Holds _ (w.heap.size + 1 + 1) 25 #[.int .i64 0, .int .i64 0, .int .i64 0, .int .i64 0, .int .i64 0, .int .i64 0, .int .i64 0, .int .i64 0, .slice none 0 0]) hb2)
  have HS2 : Hid (Below w1.heap.size w1 w2) := Lib.hid (Below.trans (by (repeat' (first | (with_reducible exact Below.refl _ _) | (with_reducible assumption) | (with_reducible refine Below.alloc ?_ ?_ _) | (with_reducible refine Below.drew ?_) | (with_reducible refine Below.setCell ?_ ?_ _) | (with_reducible exact Nat.le_refl _) | omega | (simp only [World.size_alloc, World.size_setCell, World.size_drew]; omega) | (simp; omega) | (simp; done)))) (hb2.mono (by first | exact Nat.le_refl _ | omega | (simp; done) | (simp; omega))))
  have HB2 : Hid (Below w.heap.size w w2) := Lib.hid (HB1.out.trans (HS2.out.mono hs1))
  have hs2 := HB2.out.size
  have hst2 := HS2.out.size
  have HA2 := Lib.hid (HA1.out.up HS2.out)
  clear hb2
  clear kb0 kb1 kb2 kb3 kb4 kb5 kb6 kb7 kb8 lt_b kd0 kd1 lt_d kr0 kr1 kr2 kr3 kr4 kr5 kr6 kr7 kr8 zr0 zr1 zr2 zr3 zr4 zr5 zr6 zr7 zr8 lt_r
  have kb0 : w2.cell? ⟨w.heap.size, 0, none⟩ = some (.int .i64 b.cool) := Hb2.out.cell 0
  have kb1 : w2.cell? ⟨w.heap.size, 1, none⟩ = some (.int .i64 b.gangs) := Hb2.out.cell 1
  have kb2 : w2.cell? ⟨w.heap.size, 2, none⟩ = some (.int .i64 b.r0) := Hb2.out.cell 2
  have kb3 : w2.cell? ⟨w.heap.size, 3, none⟩ = some (.int .i64 b.r1) := Hb2.out.cell 3
  have kb4 : w2.cell? ⟨w.heap.size, 4, none⟩ = some (.int .i64 b.r2) := Hb2.out.cell 4
  have kb5 : w2.cell? ⟨w.heap.size, 5, none⟩ = some (.int .i64 b.r3) := Hb2.out.cell 5
  have kb6 : w2.cell? ⟨w.heap.size, 6, none⟩ = some (.int .i64 b.r4) := Hb2.out.cell 6
  have kb7 : w2.cell? ⟨w.heap.size, 7, none⟩ = some (.int .i64 b.r5) := Hb2.out.cell 7
  have kb8 : w2.cell? ⟨w.heap.size, 8, none⟩ = some (.slice (some ⟨E0, oo, none⟩) bs.length c) := Hb2.out.cell 8
  have lt_b : w.heap.size < w2.heap.size := Hb2.out.lt
  have kd0 : w2.cell? ⟨w.heap.size + 1, 0, none⟩ = some (.int .i64 lo) := Hd2.out.cell 0
  have kd1 : w2.cell? ⟨w.heap.size + 1, 1, none⟩ = some (.int .i64 hi) := Hd2.out.cell 1
  have lt_d : w.heap.size + 1 < w2.heap.size := Hd2.out.lt
  have kr0 : w2.cell? ⟨w.heap.size + 1 + 1, 0, none⟩ = some (.int .i64 0) := Hr2.out.cell 0
  have kr1 : w2.cell? ⟨w.heap.size + 1 + 1, 1, none⟩ = some (.int .i64 0) := Hr2.out.cell 1
  have kr2 : w2.cell? ⟨w.heap.size + 1 + 1, 2, none⟩ = some (.int .i64 0) := Hr2.out.cell 2
  have kr3 : w2.cell? ⟨w.heap.size + 1 + 1, 3, none⟩ = some (.int .i64 0) := Hr2.out.cell 3
  have kr4 : w2.cell? ⟨w.heap.size + 1 + 1, 4, none⟩ = some (.int .i64 0) := Hr2.out.cell 4
  have kr5 : w2.cell? ⟨w.heap.size + 1 + 1, 5, none⟩ = some (.int .i64 0) := Hr2.out.cell 5
  have kr6 : w2.cell? ⟨w.heap.size + 1 + 1, 6, none⟩ = some (.int .i64 0) := Hr2.out.cell 6
  have kr7 : w2.cell? ⟨w.heap.size + 1 + 1, 7, none⟩ = some (.int .i64 0) := Hr2.out.cell 7
  have kr8 : w2.cell? ⟨w.heap.size + 1 + 1, 8, none⟩ = some (.slice none 0 0) := Hr2.out.cell 8
  have zr0 : w2.frozen? ⟨w.heap.size + 1 + 1, 0, none⟩ = false := Hr2.out.frozen 0
  have zr1 : w2.frozen? ⟨w.heap.size + 1 + 1, 1, none⟩ = false := Hr2.out.frozen 1
  have zr2 : w2.frozen? ⟨w.heap.size + 1 + 1, 2, none⟩ = false := Hr2.out.frozen 2
  have zr3 : w2.frozen? ⟨w.heap.size + 1 + 1, 3, none⟩ = false := Hr2.out.frozen 3
  have zr4 : w2.frozen? ⟨w.heap.size + 1 + 1, 4, none⟩ = false := Hr2.out.frozen 4
  have zr5 : w2.frozen? ⟨w.heap.size + 1 + 1, 5, none⟩ = false := Hr2.out.frozen 5
  have zr6 : w2.frozen? ⟨w.heap.size + 1 + 1, 6, none⟩ = false := Hr2.out.frozen 6
  have zr7 : w2.frozen? ⟨w.heap.size + 1 + 1, 7, none⟩ = false := Hr2.out.frozen 7
  have zr8 : w2.frozen? ⟨w.heap.size + 1 + 1, 8, none⟩ = false := Hr2.out.frozen 8
  have lt_r : w.heap.size + 1 + 1 < w2.heap.size := Hr2.out.lt
  go_wp2_with fail
  refine (isEmpty_any lo hi _).mono ?_
  rw [HOO.out]
  rintro e w3 ⟨rfl, hb3⟩
  have Hb3 := Lib.hid (Holds.up (by have h := Hb2.out; exact (by (repeat first | (with_reducible assumption) | (with_reducible apply Holds.set9) | (with_reducible apply Holds.set4) | (with_reducible apply Holds.set2) | (with_reducible apply Holds.putL) | ((with_reducible refine Holds.new' _ _ ?_); (simp; done)) | (with_reducible refine Holds.alloc ?_ _) | (with_reducible refine Holds.drew ?_) | ((with_reducible refine Holds.far ?_ (by simp only [ne_eq]; omega) _)) | rfl)) : Holds _ (w.heap.size) 25 #[.int .i64 b.cool, .int .i64 b.gangs, .int .i64 b.r0, .int .i64 b.r1, .int .i64 b.r2, .int .i64 b.r3, .int .i64 b.r4, .int .i64 b.r5, .slice (some ⟨E0, oo, none⟩) bs.length c]) hb3)
  have Hd3 := Lib.hid (Holds.up (by have h := Hd2.out; exact (by (repeat first | (with_reducible assumption) | (with_reducible apply Holds.set9) | (with_reducible apply Holds.set4) | (with_reducible apply Holds.set2) | (with_reducible apply Holds.putL) | ((with_reducible refine Holds.new' _ _ ?_); (simp; done)) | (with_reducible refine Holds.alloc ?_ _) | (with_reducible refine Holds.drew ?_) | ((with_reducible refine Holds.far ?_ (by simp only [ne_eq]; omega) _)) | rfl)) : Holds _ (w.heap.size + 1) 27 #[.int .i64 lo, .int .i64 hi]) hb3)
  have Hr3 := Lib.hid (Holds.up (by have h := Hr2.out; exact (by (repeat first | (with_reducible assumption) | (with_reducible apply Holds.set9) | (with_reducible apply Holds.set4) | (with_reducible apply Holds.set2) | (with_reducible apply Holds.putL) | ((with_reducible refine Holds.new' _ _ ?_); (simp; done)) | (with_reducible refine Holds.alloc ?_ _) | (with_reducible refine Holds.drew ?_) | ((with_reducible refine Holds.far ?_ (by simp only [ne_eq]; omega) _)) | rfl)) : Holds _ (w.heap.size + 1 + 1) 25 #[.int .i64 0, .int .i64 0, .int .i64 0, .int .i64 0, .int .i64 0, .int .i64 0, .int .i64 0, .int .i64 0, .slice none 0 0]) hb3)
  have HS3 : Hid (Below w2.heap.size w2 w3) := Lib.hid (Below.trans (by (repeat' (first | (with_reducible exact Below.refl _ _) | (with_reducible assumption) | (with_reducible refine Below.alloc ?_ ?_ _) | (with_reducible refine Below.drew ?_) | (with_reducible refine Below.setCell ?_ ?_ _) | (with_reducible exact Nat.le_refl _) | omega | (simp only [World.size_alloc, World.size_setCell, World.size_drew]; omega) | (simp; omega) | (simp; done)))) (hb3.mono (by first | exact Nat.le_refl _ | omega | (simp; done) | (simp; omega))))
  have HB3 : Hid (Below w.heap.size w w3) := Lib.hid (HB2.out.trans (HS3.out.mono hs2))
  have hs3 := HB3.out.size
  have hst3 := HS3.out.size
  have HA3 := Lib.hid (HA2.out.up HS3.out)
  clear hb3
  clear kb0 kb1 kb2 kb3 kb4 kb5 kb6 kb7 kb8 lt_b kd0 kd1 lt_d kr0 kr1 kr2 kr3 kr4 kr5 kr6 kr7 kr8 zr0 zr1 zr2 zr3 zr4 zr5 zr6 zr7 zr8 lt_r
  have kb0 : w3.cell? ⟨w.heap.size, 0, none⟩ = some (.int .i64 b.cool) := Hb3.out.cell 0
  have kb1 : w3.cell? ⟨w.heap.size, 1, none⟩ = some (.int .i64 b.gangs) := Hb3.out.cell 1
  have kb2 : w3.cell? ⟨w.heap.size, 2, none⟩ = some (.int .i64 b.r0) := Hb3.out.cell 2
  have kb3 : w3.cell? ⟨w.heap.size, 3, none⟩ = some (.int .i64 b.r1) := Hb3.out.cell 3
  have kb4 : w3.cell? ⟨w.heap.size, 4, none⟩ = some (.int .i64 b.r2) := Hb3.out.cell 4
  have kb5 : w3.cell? ⟨w.heap.size, 5, none⟩ = some (.int .i64 b.r3) := Hb3.out.cell 5
  have kb6 : w3.cell? ⟨w.heap.size, 6, none⟩ = some (.int .i64 b.r4) := Hb3.out.cell 6
  have kb7 : w3.cell? ⟨w.heap.size, 7, none⟩ = some (.int .i64 b.r5) := Hb3.out.cell 7
  have kb8 : w3.cell? ⟨w.heap.size, 8, none⟩ = some (.slice (some ⟨E0, oo, none⟩) bs.length c) := Hb3.out.cell 8
  have lt_b : w.heap.size < w3.heap.size := Hb3.out.lt
  have kd0 : w3.cell? ⟨w.heap.size + 1, 0, none⟩ = some (.int .i64 lo) := Hd3.out.cell 0
  have kd1 : w3.cell? ⟨w.heap.size + 1, 1, none⟩ = some (.int .i64 hi) := Hd3.out.cell 1
  have lt_d : w.heap.size + 1 < w3.heap.size := Hd3.out.lt
  have kr0 : w3.cell? ⟨w.heap.size + 1 + 1, 0, none⟩ = some (.int .i64 0) := Hr3.out.cell 0
  have kr1 : w3.cell? ⟨w.heap.size + 1 + 1, 1, none⟩ = some (.int .i64 0) := Hr3.out.cell 1
  have kr2 : w3.cell? ⟨w.heap.size + 1 + 1, 2, none⟩ = some (.int .i64 0) := Hr3.out.cell 2
  have kr3 : w3.cell? ⟨w.heap.size + 1 + 1, 3, none⟩ = some (.int .i64 0) := Hr3.out.cell 3
  have kr4 : w3.cell? ⟨w.heap.size + 1 + 1, 4, none⟩ = some (.int .i64 0) := Hr3.out.cell 4
  have kr5 : w3.cell? ⟨w.heap.size + 1 + 1, 5, none⟩ = some (.int .i64 0) := Hr3.out.cell 5
  have kr6 : w3.cell? ⟨w.heap.size + 1 + 1, 6, none⟩ = some (.int .i64 0) := Hr3.out.cell 6
  have kr7 : w3.cell? ⟨w.heap.size + 1 + 1, 7, none⟩ = some (.int .i64 0) := Hr3.out.cell 7
  have kr8 : w3.cell? ⟨w.heap.size + 1 + 1, 8, none⟩ = some (.slice none 0 0) := Hr3.out.cell 8
  have zr0 : w3.frozen? ⟨w.heap.size + 1 + 1, 0, none⟩ = false := Hr3.out.frozen 0
  have zr1 : w3.frozen? ⟨w.heap.size + 1 + 1, 1, none⟩ = false := Hr3.out.frozen 1
  have zr2 : w3.frozen? ⟨w.heap.size + 1 + 1, 2, none⟩ = false := Hr3.out.frozen 2
  have zr3 : w3.frozen? ⟨w.heap.size + 1 + 1, 3, none⟩ = false := Hr3.out.frozen 3
  have zr4 : w3.frozen? ⟨w.heap.size + 1 + 1, 4, none⟩ = false := Hr3.out.frozen 4
  have zr5 : w3.frozen? ⟨w.heap.size + 1 + 1, 5, none⟩ = false := Hr3.out.frozen 5
  have zr6 : w3.frozen? ⟨w.heap.size + 1 + 1, 6, none⟩ = false := Hr3.out.frozen 6
  have zr7 : w3.frozen? ⟨w.heap.size + 1 + 1, 7, none⟩ = false := Hr3.out.frozen 7
  have zr8 : w3.frozen? ⟨w.heap.size + 1 + 1, 8, none⟩ = false := Hr3.out.frozen 8
  have lt_r : w.heap.size + 1 + 1 < w3.heap.size := Hr3.out.lt
  go_wp2_with fail
  rename_i Kc hKc
  refine wp_region_partsG (by kernel_rfl) [some 26, some 27, some 28, some 29, some 30, some 31, some 32, some 33, some 9, none] (fun jq xq w' => match jq with
    | 0 => xq 26 = .pointer (some ⟨w.heap.size, 8, none⟩)
    | 1 => xq 27 = .slice (some ⟨E0, oo, none⟩) bs.length c
    | 2 => xq 28 = .int .i64 (k : Int)
    | 3 => xq 29 = .pointer (some ⟨E0, oo + k * 4, none⟩)
    | 4 => xq 30 = .pointer (some ⟨E0, oo + k * 4 + 2, none⟩)
    | 5 => xq 31 = .agg #[.int .i64 x.lo, .int .i64 x.hi]
    | 6 => xq 32 = .agg #[.int .i64 lo, .int .i64 hi]
    | 7 => xq 33 = .agg #[.int .i64 p, .int .i64 q]
    | 8 => ∃ b, xq 9 = .pointer (some ⟨b, 0, none⟩) ∧ w3.heap.size ≤ b ∧ Holds w' b 27 #[.int .i64 0, .int .i64 0]
    | 9 => ∃ b, xq 9 = .pointer (some ⟨b, 0, none⟩) ∧ w3.heap.size ≤ b ∧ Holds w' b 27 #[.int .i64 p, .int .i64 q]
    | _ => True) [[26], [27], [28], [29], [30], [31], [32], [33], [9], [9]] [(9, 8)] (fun w' => Below w3.heap.size w3 w') (by kernel_rfl)  ?_ ?_ (fun w' w'' hb h => h.trans (hb.mono h.size)) (Below.refl _ _) ?_ ?_ ?_
  · intro jq xq xq' wqq h hv
    match jq, h, hv with
    | 0, h, hv => show xq' 26 = .pointer (some ⟨w.heap.size, 8, none⟩); rw [← h 26 (by decide)]; exact hv
    | 1, h, hv => show xq' 27 = .slice (some ⟨E0, oo, none⟩) bs.length c; rw [← h 27 (by decide)]; exact hv
    | 2, h, hv => show xq' 28 = .int .i64 (k : Int); rw [← h 28 (by decide)]; exact hv
    | 3, h, hv => show xq' 29 = .pointer (some ⟨E0, oo + k * 4, none⟩); rw [← h 29 (by decide)]; exact hv
    | 4, h, hv => show xq' 30 = .pointer (some ⟨E0, oo + k * 4 + 2, none⟩); rw [← h 30 (by decide)]; exact hv
    | 5, h, hv => show xq' 31 = .agg #[.int .i64 x.lo, .int .i64 x.hi]; rw [← h 31 (by decide)]; exact hv
    | 6, h, hv => show xq' 32 = .agg #[.int .i64 lo, .int .i64 hi]; rw [← h 32 (by decide)]; exact hv
    | 7, h, hv => show xq' 33 = .agg #[.int .i64 p, .int .i64 q]; rw [← h 33 (by decide)]; exact hv
    | 8, h, hv => show ∃ b, xq' 9 = .pointer (some ⟨b, 0, none⟩) ∧ w3.heap.size ≤ b ∧ Holds wqq b 27 #[.int .i64 0, .int .i64 0]; rw [← h 9 (by decide)]; exact hv
    | 9, h, hv => show ∃ b, xq' 9 = .pointer (some ⟨b, 0, none⟩) ∧ w3.heap.size ≤ b ∧ Holds wqq b 27 #[.int .i64 p, .int .i64 q]; rw [← h 9 (by decide)]; exact hv
    | _ + 10, _, _ => trivial
  · intro jq xq wqq w' hb' hv
    match jq, hv with
    | 0, hv => exact hv
    | 1, hv => exact hv
    | 2, hv => exact hv
    | 3, hv => exact hv
    | 4, hv => exact hv
    | 5, hv => exact hv
    | 6, hv => exact hv
    | 7, hv => exact hv
    | 8, ⟨b0, h0, h1, h2⟩ => exact ⟨b0, h0, h1, h2.up hb'⟩
    | 9, ⟨b0, h0, h1, h2⟩ => exact ⟨b0, h0, h1, h2.up hb'⟩
    | _ + 10, _ => trivial
  · intro jq hj
    match jq, hj with
    | 0, hj => exact absurd hj (by decide)
    | 1, hj => exact absurd hj (by decide)
    | 2, hj => exact absurd hj (by decide)
    | 3, hj => exact absurd hj (by decide)
    | 4, hj => exact absurd hj (by decide)
    | 5, hj => exact absurd hj (by decide)
    | 6, hj => exact absurd hj (by decide)
    | 7, hj => exact absurd hj (by decide)
    | 8, hj => exact absurd hj (by decide)
    | 9, hj => exact absurd hj (by decide)
    | _ + 10, _ => trivial
  · refine ⟨?_, ?_, ?_, ?_, ?_, ?_, ?_, ?_, ?_, ?_, trivial⟩
    · intro xq w8 hbq hx K hK0
      have hK := fun v w' hb => hK0 v w' (.inl hb)
      clear hx hKc hK0
      simp only [frameOf, fill, setSlot, List.contains_cons, List.contains_nil, Nat.reduceBEq, Bool.or_false, Bool.false_or, Bool.or_true, Bool.true_or, if_true, if_false, Bool.false_eq_true, Nat.reduceAdd, Nat.reduceEqDiff, List.getD_cons_zero, List.getD_cons_succ, Nat.zero_add, show slotsOf [some 26, some 27, some 28, some 29, some 30, some 31, some 32, some 33, some 9, none] = [26, 27, 28, 29, 30, 31, 32, 33, 9] from rfl] at hK ⊢
      go_wp2_with (fail)
      exact hK _ _ (Below.refl _ _) rfl
    · intro xq w8 hbq hx K hK0
      have hK := fun v w' hb => hK0 v w' (.inl hb)
      have e26 : xq 26 = .pointer (some ⟨w.heap.size, 8, none⟩) := hx 0 (by rfl) (by rfl)
      clear hx hKc hK0
      have q27 : w8.cell? ⟨w.heap.size, 8, none⟩ = some (.slice (some ⟨E0, oo, none⟩) bs.length c) := up_cell hbq kb8
      simp only [frameOf, fill, setSlot, List.contains_cons, List.contains_nil, Nat.reduceBEq, Bool.or_false, Bool.false_or, Bool.or_true, Bool.true_or, if_true, if_false, Bool.false_eq_true, Nat.reduceAdd, Nat.reduceEqDiff, List.getD_cons_zero, List.getD_cons_succ, Nat.zero_add, show slotsOf [some 26, some 27, some 28, some 29, some 30, some 31, some 32, some 33, some 9, none] = [26, 27, 28, 29, 30, 31, 32, 33, 9] from rfl] at hK ⊢
      simp only [e26] at hK ⊢
      clear e26
      go_wp2_with (fail)
      exact hK _ _ (Below.refl _ _) rfl
    · intro xq w8 hbq hx K hK0
      have hK := fun v w' hb => hK0 v w' (.inl hb)
      clear hx hKc hK0
      simp only [frameOf, fill, setSlot, List.contains_cons, List.contains_nil, Nat.reduceBEq, Bool.or_false, Bool.false_or, Bool.or_true, Bool.true_or, if_true, if_false, Bool.false_eq_true, Nat.reduceAdd, Nat.reduceEqDiff, List.getD_cons_zero, List.getD_cons_succ, Nat.zero_add, show slotsOf [some 26, some 27, some 28, some 29, some 30, some 31, some 32, some 33, some 9, none] = [26, 27, 28, 29, 30, 31, 32, 33, 9] from rfl] at hK ⊢
      go_wp2_with (fail)
      exact hK _ _ (Below.refl _ _) rfl
    · intro xq w8 hbq hx K hK0
      have hK := fun v w' hb => hK0 v w' (.inl hb)
      have e27 : xq 27 = .slice (some ⟨E0, oo, none⟩) bs.length c := hx 1 (by rfl) (by rfl)
      have e28 : xq 28 = .int .i64 (k : Int) := hx 2 (by rfl) (by rfl)
      clear hx hKc hK0
      simp only [frameOf, fill, setSlot, List.contains_cons, List.contains_nil, Nat.reduceBEq, Bool.or_false, Bool.false_or, Bool.or_true, Bool.true_or, if_true, if_false, Bool.false_eq_true, Nat.reduceAdd, Nat.reduceEqDiff, List.getD_cons_zero, List.getD_cons_succ, Nat.zero_add, show slotsOf [some 26, some 27, some 28, some 29, some 30, some 31, some 32, some 33, some 9, none] = [26, 27, 28, 29, 30, 31, 32, 33, 9] from rfl] at hK ⊢
      simp only [e27, e28] at hK ⊢
      clear e27 e28
      go_wp2_with (fail)
      exact hK _ _ (Below.refl _ _) rfl
    · intro xq w8 hbq hx K hK0
      have hK := fun v w' hb => hK0 v w' (.inl hb)
      have e29 : xq 29 = .pointer (some ⟨E0, oo + k * 4, none⟩) := hx 3 (by rfl) (by rfl)
      clear hx hKc hK0
      simp only [frameOf, fill, setSlot, List.contains_cons, List.contains_nil, Nat.reduceBEq, Bool.or_false, Bool.false_or, Bool.or_true, Bool.true_or, if_true, if_false, Bool.false_eq_true, Nat.reduceAdd, Nat.reduceEqDiff, List.getD_cons_zero, List.getD_cons_succ, Nat.zero_add, show slotsOf [some 26, some 27, some 28, some 29, some 30, some 31, some 32, some 33, some 9, none] = [26, 27, 28, 29, 30, 31, 32, 33, 9] from rfl] at hK ⊢
      simp only [e29] at hK ⊢
      clear e29
      go_wp2_with (fail)
      exact hK _ _ (Below.refl _ _) rfl
    · intro xq w8 hbq hx K hK0
      have hK := fun v w' hb => hK0 v w' (.inl hb)
      have e30 : xq 30 = .pointer (some ⟨E0, oo + k * 4 + 2, none⟩) := hx 4 (by rfl) (by rfl)
      clear hx hKc hK0
      have q0 := up_cell (HB3.out.trans (hbq.mono hs3)) KE2.out
      have q1 := up_cell (HB3.out.trans (hbq.mono hs3)) KE3.out
      simp only [frameOf, fill, setSlot, List.contains_cons, List.contains_nil, Nat.reduceBEq, Bool.or_false, Bool.false_or, Bool.or_true, Bool.true_or, if_true, if_false, Bool.false_eq_true, Nat.reduceAdd, Nat.reduceEqDiff, List.getD_cons_zero, List.getD_cons_succ, Nat.zero_add, show slotsOf [some 26, some 27, some 28, some 29, some 30, some 31, some 32, some 33, some 9, none] = [26, 27, 28, 29, 30, 31, 32, 33, 9] from rfl] at hK ⊢
      simp only [e30] at hK ⊢
      clear e30
      go_wp2_with (fail)
      exact hK _ _ (Below.refl _ _) rfl
    · intro xq w8 hbq hx K hK0
      have hK := fun v w' hb => hK0 v w' (.inl hb)
      clear hx hKc hK0
      have q0 : w8.cell? ⟨w.heap.size + 1, 0, none⟩ = some (.int .i64 lo) := up_cell hbq kd0
      have q1 : w8.cell? ⟨w.heap.size + 1, 1, none⟩ = some (.int .i64 hi) := up_cell hbq kd1
      simp only [frameOf, fill, setSlot, List.contains_cons, List.contains_nil, Nat.reduceBEq, Bool.or_false, Bool.false_or, Bool.or_true, Bool.true_or, if_true, if_false, Bool.false_eq_true, Nat.reduceAdd, Nat.reduceEqDiff, List.getD_cons_zero, List.getD_cons_succ, Nat.zero_add, show slotsOf [some 26, some 27, some 28, some 29, some 30, some 31, some 32, some 33, some 9, none] = [26, 27, 28, 29, 30, 31, 32, 33, 9] from rfl] at hK ⊢
      go_wp2_with (fail)
      exact hK _ _ (Below.refl _ _) rfl
    · intro xq w8 hbq hx K hK0
      have hK := fun v w' hb => hK0 v w' (.inl hb)
      have e31 : xq 31 = .agg #[.int .i64 x.lo, .int .i64 x.hi] := hx 5 (by rfl) (by rfl)
      have e32 : xq 32 = .agg #[.int .i64 lo, .int .i64 hi] := hx 6 (by rfl) (by rfl)
      clear hx hKc hK0
      simp only [frameOf, fill, setSlot, List.contains_cons, List.contains_nil, Nat.reduceBEq, Bool.or_false, Bool.false_or, Bool.or_true, Bool.true_or, if_true, if_false, Bool.false_eq_true, Nat.reduceAdd, Nat.reduceEqDiff, List.getD_cons_zero, List.getD_cons_succ, Nat.zero_add, show slotsOf [some 26, some 27, some 28, some 29, some 30, some 31, some 32, some 33, some 9, none] = [26, 27, 28, 29, 30, 31, 32, 33, 9] from rfl] at hK ⊢
      simp only [e31, e32] at hK ⊢
      clear e31 e32
      go_wp2_with (go_at_call 64; refine (meet_any x.lo x.hi lo hi _).mono ?_; rw [HP.out, HQ.out]; rintro e w2_ ⟨rfl, hb_⟩)
      exact hK _ _ hb_ rfl
    · intro xq w8 hbq hx K hK0
      have hK := fun v w' hb => hK0 v w' (.inl hb)
      clear hx hKc hK0
      simp only [frameOf, fill, setSlot, List.contains_cons, List.contains_nil, Nat.reduceBEq, Bool.or_false, Bool.false_or, Bool.or_true, Bool.true_or, if_true, if_false, Bool.false_eq_true, Nat.reduceAdd, Nat.reduceEqDiff, List.getD_cons_zero, List.getD_cons_succ, Nat.zero_add, show slotsOf [some 26, some 27, some 28, some 29, some 30, some 31, some 32, some 33, some 9, none] = [26, 27, 28, 29, 30, 31, 32, 33, 9] from rfl] at hK ⊢
      go_wp2_with (fail)
      exact hK _ _ ((Below.refl _ _).alloc (Nat.le_refl _) _) ⟨_, rfl, hbq.size, Holds.new _ _ _⟩
    · intro xq w8 hbq hx K hK0
      have hK := fun v w' hb => hK0 v w' (.inr hb)
      have e33 : xq 33 = .agg #[.int .i64 p, .int .i64 q] := hx 7 (by rfl) (by rfl)
      obtain ⟨b9, e9, f9_0, f9_1⟩ := hx 8 (by rfl) (by rfl)
      clear hx hKc hK0
      have ka0 : w8.cell? ⟨b9, 0, none⟩ = some (.int .i64 0) := f9_1.cell 0
      have ka1 : w8.cell? ⟨b9, 1, none⟩ = some (.int .i64 0) := f9_1.cell 1
      have za0 : w8.frozen? ⟨b9, 0, none⟩ = false := f9_1.frozen 0
      have za1 : w8.frozen? ⟨b9, 1, none⟩ = false := f9_1.frozen 1
      have lt9 := f9_1.lt
      simp only [frameOf, fill, setSlot, List.contains_cons, List.contains_nil, Nat.reduceBEq, Bool.or_false, Bool.false_or, Bool.or_true, Bool.true_or, if_true, if_false, Bool.false_eq_true, Nat.reduceAdd, Nat.reduceEqDiff, List.getD_cons_zero, List.getD_cons_succ, Nat.zero_add, show slotsOf [some 26, some 27, some 28, some 29, some 30, some 31, some 32, some 33, some 9, none] = [26, 27, 28, 29, 30, 31, 32, 33, 9] from rfl] at hK ⊢
      have E33 := Lib.hid e33
      have E9 := Lib.hid e9
      simp only [e33, e9] at hK ⊢
      clear e33 e9
      go_wp2_with (fail)
      refine hK undef _ ⟨(by have h := hbq; exact (by (repeat' (first | (with_reducible exact Below.refl _ _) | (with_reducible assumption) | (with_reducible refine Below.alloc ?_ ?_ _) | (with_reducible refine Below.drew ?_) | (with_reducible refine Below.setCell ?_ ?_ _) | (with_reducible exact Nat.le_refl _) | omega | (simp only [World.size_alloc, World.size_setCell, World.size_drew]; omega) | (simp; omega) | (simp; done))))), ?_⟩ ⟨_, rfl, f9_0, Holds.set2 _ _ f9_1⟩
      intro jq xq hd hne hv
      match jq, hd, hne, hv with
      | 0, _, _, hv => exact hv
      | 1, _, _, hv => exact hv
      | 2, _, _, hv => exact hv
      | 3, _, _, hv => exact hv
      | 4, _, _, hv => exact hv
      | 5, _, _, hv => exact hv
      | 6, _, _, hv => exact hv
      | 7, _, _, hv => exact hv
      | 8, hd, _, _ => exact absurd hd (by decide)
      | 9, _, hne, _ => exact absurd rfl hne
      | _ + 10, _, _, _ => trivial
  · intro xq w8 hbq hx
    have e26 : xq 26 = .pointer (some ⟨w.heap.size, 8, none⟩) := hx 0 (by decide)
    have e27 : xq 27 = .slice (some ⟨E0, oo, none⟩) bs.length c := hx 1 (by decide)
    have e28 : xq 28 = .int .i64 (k : Int) := hx 2 (by decide)
    have e29 : xq 29 = .pointer (some ⟨E0, oo + k * 4, none⟩) := hx 3 (by decide)
    have e30 : xq 30 = .pointer (some ⟨E0, oo + k * 4 + 2, none⟩) := hx 4 (by decide)
    have e31 : xq 31 = .agg #[.int .i64 x.lo, .int .i64 x.hi] := hx 5 (by decide)
    have e32 : xq 32 = .agg #[.int .i64 lo, .int .i64 hi] := hx 6 (by decide)
    have e33 : xq 33 = .agg #[.int .i64 p, .int .i64 q] := hx 7 (by decide)
    obtain ⟨bn9, fn9_0, fn9_1, fn9_2⟩ := hx 9 (by decide)
    clear hx
    simp only [frameOf, fill, setSlot, List.contains_cons, List.contains_nil, Nat.reduceBEq, Bool.or_false, Bool.false_or, Bool.or_true, Bool.true_or, if_true, if_false, Bool.false_eq_true, Nat.reduceAdd, Nat.reduceEqDiff, List.getD_cons_zero, List.getD_cons_succ, Nat.zero_add, show slotsOf [some 26, some 27, some 28, some 29, some 30, some 31, some 32, some 33, some 9, none] = [26, 27, 28, 29, 30, 31, 32, 33, 9] from rfl]
    simp only [e26, e27, e28, e29, e30, e31, e32, e33, fn9_0]
    clear e26 e27 e28 e29 e30 e31 e32 e33 fn9_0
    refine hKc _ _ ?_
    have HS8 := Lib.hid hbq
    have HB8 := Lib.hid (HB3.out.trans (hbq.mono hs3))
    have hs8 := HB8.out.size
    have hst8 := hbq.size
    have Hm8 := Lib.hid fn9_2
    have HA8 := Lib.hid (HA3.out.up hbq)
    have Hb8 := Lib.hid (Hb3.out.up hbq)
    have Hd8 := Lib.hid (Hd3.out.up hbq)
    have Hr8 := Lib.hid (Hr3.out.up hbq)
    clear hbq fn9_2
    clear kb0 kb1 kb2 kb3 kb4 kb5 kb6 kb7 kb8 lt_b kd0 kd1 lt_d kr0 kr1 kr2 kr3 kr4 kr5 kr6 kr7 kr8 zr0 zr1 zr2 zr3 zr4 zr5 zr6 zr7 zr8 lt_r
    have kb0 : w8.cell? ⟨w.heap.size, 0, none⟩ = some (.int .i64 b.cool) := Hb8.out.cell 0
    have kb1 : w8.cell? ⟨w.heap.size, 1, none⟩ = some (.int .i64 b.gangs) := Hb8.out.cell 1
    have kb2 : w8.cell? ⟨w.heap.size, 2, none⟩ = some (.int .i64 b.r0) := Hb8.out.cell 2
    have kb3 : w8.cell? ⟨w.heap.size, 3, none⟩ = some (.int .i64 b.r1) := Hb8.out.cell 3
    have kb4 : w8.cell? ⟨w.heap.size, 4, none⟩ = some (.int .i64 b.r2) := Hb8.out.cell 4
    have kb5 : w8.cell? ⟨w.heap.size, 5, none⟩ = some (.int .i64 b.r3) := Hb8.out.cell 5
    have kb6 : w8.cell? ⟨w.heap.size, 6, none⟩ = some (.int .i64 b.r4) := Hb8.out.cell 6
    have kb7 : w8.cell? ⟨w.heap.size, 7, none⟩ = some (.int .i64 b.r5) := Hb8.out.cell 7
    have kb8 : w8.cell? ⟨w.heap.size, 8, none⟩ = some (.slice (some ⟨E0, oo, none⟩) bs.length c) := Hb8.out.cell 8
    have lt_b : w.heap.size < w8.heap.size := Hb8.out.lt
    have km0 : w8.cell? ⟨bn9, 0, none⟩ = some (.int .i64 p) := Hm8.out.cell 0
    have km1 : w8.cell? ⟨bn9, 1, none⟩ = some (.int .i64 q) := Hm8.out.cell 1
    have lt_m : bn9 < w8.heap.size := Hm8.out.lt
    have kr0 : w8.cell? ⟨w.heap.size + 1 + 1, 0, none⟩ = some (.int .i64 0) := Hr8.out.cell 0
    have kr1 : w8.cell? ⟨w.heap.size + 1 + 1, 1, none⟩ = some (.int .i64 0) := Hr8.out.cell 1
    have kr2 : w8.cell? ⟨w.heap.size + 1 + 1, 2, none⟩ = some (.int .i64 0) := Hr8.out.cell 2
    have kr3 : w8.cell? ⟨w.heap.size + 1 + 1, 3, none⟩ = some (.int .i64 0) := Hr8.out.cell 3
    have kr4 : w8.cell? ⟨w.heap.size + 1 + 1, 4, none⟩ = some (.int .i64 0) := Hr8.out.cell 4
    have kr5 : w8.cell? ⟨w.heap.size + 1 + 1, 5, none⟩ = some (.int .i64 0) := Hr8.out.cell 5
    have kr6 : w8.cell? ⟨w.heap.size + 1 + 1, 6, none⟩ = some (.int .i64 0) := Hr8.out.cell 6
    have kr7 : w8.cell? ⟨w.heap.size + 1 + 1, 7, none⟩ = some (.int .i64 0) := Hr8.out.cell 7
    have kr8 : w8.cell? ⟨w.heap.size + 1 + 1, 8, none⟩ = some (.slice none 0 0) := Hr8.out.cell 8
    have zr0 : w8.frozen? ⟨w.heap.size + 1 + 1, 0, none⟩ = false := Hr8.out.frozen 0
    have zr1 : w8.frozen? ⟨w.heap.size + 1 + 1, 1, none⟩ = false := Hr8.out.frozen 1
    have zr2 : w8.frozen? ⟨w.heap.size + 1 + 1, 2, none⟩ = false := Hr8.out.frozen 2
    have zr3 : w8.frozen? ⟨w.heap.size + 1 + 1, 3, none⟩ = false := Hr8.out.frozen 3
    have zr4 : w8.frozen? ⟨w.heap.size + 1 + 1, 4, none⟩ = false := Hr8.out.frozen 4
    have zr5 : w8.frozen? ⟨w.heap.size + 1 + 1, 5, none⟩ = false := Hr8.out.frozen 5
    have zr6 : w8.frozen? ⟨w.heap.size + 1 + 1, 6, none⟩ = false := Hr8.out.frozen 6
    have zr7 : w8.frozen? ⟨w.heap.size + 1 + 1, 7, none⟩ = false := Hr8.out.frozen 7
    have zr8 : w8.frozen? ⟨w.heap.size + 1 + 1, 8, none⟩ = false := Hr8.out.frozen 8
    have lt_r : w.heap.size + 1 + 1 < w8.heap.size := Hr8.out.lt
    go_wp2_with fail
    refine (isEmpty_any p q _).mono ?_
    rw [HM.out]
    rintro e w4 ⟨rfl, hb4⟩
    have Hb4 := Lib.hid (Holds.up (by have h := Hb8.out; exact (by (repeat first | (with_reducible assumption) | (with_reducible apply Holds.set9) | (with_reducible apply Holds.set4) | (with_reducible apply Holds.set2) | (with_reducible apply Holds.putL) | ((with_reducible refine Holds.new' _ _ ?_); (simp; done)) | (with_reducible refine Holds.alloc ?_ _) | (with_reducible refine Holds.drew ?_) | ((with_reducible refine Holds.far ?_ (by simp only [ne_eq]; omega) _)) | rfl)) : Holds _ (w.heap.size) 25 #[.int .i64 b.cool, .int .i64 b.gangs, .int .i64 b.r0, .int .i64 b.r1, .int .i64 b.r2, .int .i64 b.r3, .int .i64 b.r4, .int .i64 b.r5, .slice (some ⟨E0, oo, none⟩) bs.length c]) hb4)
    have Hd4 := Lib.hid (Holds.up (by have h := Hd8.out; exact (by (repeat first | (with_reducible assumption) | (with_reducible apply Holds.set9) | (with_reducible apply Holds.set4) | (with_reducible apply Holds.set2) | (with_reducible apply Holds.putL) | ((with_reducible refine Holds.new' _ _ ?_); (simp; done)) | (with_reducible refine Holds.alloc ?_ _) | (with_reducible refine Holds.drew ?_) | ((with_reducible refine Holds.far ?_ (by simp only [ne_eq]; omega) _)) | rfl)) : Holds _ (w.heap.size + 1) 27 #[.int .i64 lo, .int .i64 hi]) hb4)
    have Hr4 := Lib.hid (Holds.up (by have h := Hr8.out; exact (by (repeat first | (with_reducible assumption) | (with_reducible apply Holds.set9) | (with_reducible apply Holds.set4) | (with_reducible apply Holds.set2) | (with_reducible apply Holds.putL) | ((with_reducible refine Holds.new' _ _ ?_); (simp; done)) | (with_reducible refine Holds.alloc ?_ _) | (with_reducible refine Holds.drew ?_) | ((with_reducible refine Holds.far ?_ (by simp only [ne_eq]; omega) _)) | rfl)) : Holds _ (w.heap.size + 1 + 1) 25 #[.int .i64 0, .int .i64 0, .int .i64 0, .int .i64 0, .int .i64 0, .int .i64 0, .int .i64 0, .int .i64 0, .slice none 0 0]) hb4)
    have Hm4 := Lib.hid (Holds.up (by have h := Hm8.out; exact (by (repeat first | (with_reducible assumption) | (with_reducible apply Holds.set9) | (with_reducible apply Holds.set4) | (with_reducible apply Holds.set2) | (with_reducible apply Holds.putL) | ((with_reducible refine Holds.new' _ _ ?_); (simp; done)) | (with_reducible refine Holds.alloc ?_ _) | (with_reducible refine Holds.drew ?_) | ((with_reducible refine Holds.far ?_ (by simp only [ne_eq]; omega) _)) | rfl)) : Holds _ (bn9) 27 #[.int .i64 p, .int .i64 q]) hb4)
    have HS4 : Hid (Below w8.heap.size w8 w4) := Lib.hid (Below.trans (by (repeat' (first | (with_reducible exact Below.refl _ _) | (with_reducible assumption) | (with_reducible refine Below.alloc ?_ ?_ _) | (with_reducible refine Below.drew ?_) | (with_reducible refine Below.setCell ?_ ?_ _) | (with_reducible exact Nat.le_refl _) | omega | (simp only [World.size_alloc, World.size_setCell, World.size_drew]; omega) | (simp; omega) | (simp; done)))) (hb4.mono (by first | exact Nat.le_refl _ | omega | (simp; done) | (simp; omega))))
    have HB4 : Hid (Below w.heap.size w w4) := Lib.hid (HB8.out.trans (HS4.out.mono hs8))
    have hs4 := HB4.out.size
    have hst4 := HS4.out.size
    have HA4 := Lib.hid (HA8.out.up HS4.out)
    clear hb4
    clear kb0 kb1 kb2 kb3 kb4 kb5 kb6 kb7 kb8 lt_b km0 km1 lt_m kr0 kr1 kr2 kr3 kr4 kr5 kr6 kr7 kr8 zr0 zr1 zr2 zr3 zr4 zr5 zr6 zr7 zr8 lt_r
    have kb0 : w4.cell? ⟨w.heap.size, 0, none⟩ = some (.int .i64 b.cool) := Hb4.out.cell 0
    have kb1 : w4.cell? ⟨w.heap.size, 1, none⟩ = some (.int .i64 b.gangs) := Hb4.out.cell 1
    have kb2 : w4.cell? ⟨w.heap.size, 2, none⟩ = some (.int .i64 b.r0) := Hb4.out.cell 2
    have kb3 : w4.cell? ⟨w.heap.size, 3, none⟩ = some (.int .i64 b.r1) := Hb4.out.cell 3
    have kb4 : w4.cell? ⟨w.heap.size, 4, none⟩ = some (.int .i64 b.r2) := Hb4.out.cell 4
    have kb5 : w4.cell? ⟨w.heap.size, 5, none⟩ = some (.int .i64 b.r3) := Hb4.out.cell 5
    have kb6 : w4.cell? ⟨w.heap.size, 6, none⟩ = some (.int .i64 b.r4) := Hb4.out.cell 6
    have kb7 : w4.cell? ⟨w.heap.size, 7, none⟩ = some (.int .i64 b.r5) := Hb4.out.cell 7
    have kb8 : w4.cell? ⟨w.heap.size, 8, none⟩ = some (.slice (some ⟨E0, oo, none⟩) bs.length c) := Hb4.out.cell 8
    have zb0 : w4.frozen? ⟨w.heap.size, 0, none⟩ = false := Hb4.out.frozen 0
    have zb1 : w4.frozen? ⟨w.heap.size, 1, none⟩ = false := Hb4.out.frozen 1
    have zb2 : w4.frozen? ⟨w.heap.size, 2, none⟩ = false := Hb4.out.frozen 2
    have zb3 : w4.frozen? ⟨w.heap.size, 3, none⟩ = false := Hb4.out.frozen 3
    have zb4 : w4.frozen? ⟨w.heap.size, 4, none⟩ = false := Hb4.out.frozen 4
    have zb5 : w4.frozen? ⟨w.heap.size, 5, none⟩ = false := Hb4.out.frozen 5
    have zb6 : w4.frozen? ⟨w.heap.size, 6, none⟩ = false := Hb4.out.frozen 6
    have zb7 : w4.frozen? ⟨w.heap.size, 7, none⟩ = false := Hb4.out.frozen 7
    have zb8 : w4.frozen? ⟨w.heap.size, 8, none⟩ = false := Hb4.out.frozen 8
    have lt_b : w.heap.size < w4.heap.size := Hb4.out.lt
    have km0 : w4.cell? ⟨bn9, 0, none⟩ = some (.int .i64 p) := Hm4.out.cell 0
    have km1 : w4.cell? ⟨bn9, 1, none⟩ = some (.int .i64 q) := Hm4.out.cell 1
    have lt_m : bn9 < w4.heap.size := Hm4.out.lt
    have kr0 : w4.cell? ⟨w.heap.size + 1 + 1, 0, none⟩ = some (.int .i64 0) := Hr4.out.cell 0
    have kr1 : w4.cell? ⟨w.heap.size + 1 + 1, 1, none⟩ = some (.int .i64 0) := Hr4.out.cell 1
    have kr2 : w4.cell? ⟨w.heap.size + 1 + 1, 2, none⟩ = some (.int .i64 0) := Hr4.out.cell 2
    have kr3 : w4.cell? ⟨w.heap.size + 1 + 1, 3, none⟩ = some (.int .i64 0) := Hr4.out.cell 3
    have kr4 : w4.cell? ⟨w.heap.size + 1 + 1, 4, none⟩ = some (.int .i64 0) := Hr4.out.cell 4
    have kr5 : w4.cell? ⟨w.heap.size + 1 + 1, 5, none⟩ = some (.int .i64 0) := Hr4.out.cell 5
    have kr6 : w4.cell? ⟨w.heap.size + 1 + 1, 6, none⟩ = some (.int .i64 0) := Hr4.out.cell 6
    have kr7 : w4.cell? ⟨w.heap.size + 1 + 1, 7, none⟩ = some (.int .i64 0) := Hr4.out.cell 7
    have kr8 : w4.cell? ⟨w.heap.size + 1 + 1, 8, none⟩ = some (.slice none 0 0) := Hr4.out.cell 8
    have zr0 : w4.frozen? ⟨w.heap.size + 1 + 1, 0, none⟩ = false := Hr4.out.frozen 0
    have zr1 : w4.frozen? ⟨w.heap.size + 1 + 1, 1, none⟩ = false := Hr4.out.frozen 1
    have zr2 : w4.frozen? ⟨w.heap.size + 1 + 1, 2, none⟩ = false := Hr4.out.frozen 2
    have zr3 : w4.frozen? ⟨w.heap.size + 1 + 1, 3, none⟩ = false := Hr4.out.frozen 3
    have zr4 : w4.frozen? ⟨w.heap.size + 1 + 1, 4, none⟩ = false := Hr4.out.frozen 4
    have zr5 : w4.frozen? ⟨w.heap.size + 1 + 1, 5, none⟩ = false := Hr4.out.frozen 5
    have zr6 : w4.frozen? ⟨w.heap.size + 1 + 1, 6, none⟩ = false := Hr4.out.frozen 6
    have zr7 : w4.frozen? ⟨w.heap.size + 1 + 1, 7, none⟩ = false := Hr4.out.frozen 7
    have zr8 : w4.frozen? ⟨w.heap.size + 1 + 1, 8, none⟩ = false := Hr4.out.frozen 8
    have lt_r : w.heap.size + 1 + 1 < w4.heap.size := Hr4.out.lt
    go_wp2_with fail
    refine (withBins_any b (some ⟨E0, oo, none⟩) c bs _ (HA4.out.up (by (repeat' (first | (with_reducible exact Below.refl _ _) | (with_reducible assumption) | (with_reducible refine Below.alloc ?_ ?_ _) | (with_reducible refine Below.drew ?_) | (with_reducible refine Below.setCell ?_ ?_ _) | (with_reducible exact Nat.le_refl _) | omega | (simp only [World.size_alloc, World.size_setCell, World.size_drew]; omega) | (simp; omega) | (simp; done))))) hl).mono ?_
    rintro e w5 ⟨B5, rfl, hB5, hle5, hb5⟩
    have Hb5 := Lib.hid (Holds.up (by have h := Hb4.out; exact (by (repeat first | (with_reducible assumption) | (with_reducible apply Holds.set9) | (with_reducible apply Holds.set4) | (with_reducible apply Holds.set2) | (with_reducible apply Holds.putL) | ((with_reducible refine Holds.new' _ _ ?_); (simp; done)) | (with_reducible refine Holds.alloc ?_ _) | (with_reducible refine Holds.drew ?_) | ((with_reducible refine Holds.far ?_ (by simp only [ne_eq]; omega) _)) | rfl)) : Holds _ (w.heap.size) 25 #[.int .i64 b.cool, .int .i64 b.gangs, .int .i64 b.r0, .int .i64 b.r1, .int .i64 b.r2, .int .i64 b.r3, .int .i64 b.r4, .int .i64 b.r5, .slice (some ⟨E0, oo, none⟩) bs.length c]) hb5)
    have Hd5 := Lib.hid (Holds.up (by have h := Hd4.out; exact (by (repeat first | (with_reducible assumption) | (with_reducible apply Holds.set9) | (with_reducible apply Holds.set4) | (with_reducible apply Holds.set2) | (with_reducible apply Holds.putL) | ((with_reducible refine Holds.new' _ _ ?_); (simp; done)) | (with_reducible refine Holds.alloc ?_ _) | (with_reducible refine Holds.drew ?_) | ((with_reducible refine Holds.far ?_ (by simp only [ne_eq]; omega) _)) | rfl)) : Holds _ (w.heap.size + 1) 27 #[.int .i64 lo, .int .i64 hi]) hb5)
    have Hr5 := Lib.hid (Holds.up (by have h := Hr4.out; exact (by (repeat first | (with_reducible assumption) | (with_reducible apply Holds.set9) | (with_reducible apply Holds.set4) | (with_reducible apply Holds.set2) | (with_reducible apply Holds.putL) | ((with_reducible refine Holds.new' _ _ ?_); (simp; done)) | (with_reducible refine Holds.alloc ?_ _) | (with_reducible refine Holds.drew ?_) | ((with_reducible refine Holds.far ?_ (by simp only [ne_eq]; omega) _)) | rfl)) : Holds _ (w.heap.size + 1 + 1) 25 #[.int .i64 0, .int .i64 0, .int .i64 0, .int .i64 0, .int .i64 0, .int .i64 0, .int .i64 0, .int .i64 0, .slice none 0 0]) hb5)
    have Hm5 := Lib.hid (Holds.up (by have h := Hm4.out; exact (by (repeat first | (with_reducible assumption) | (with_reducible apply Holds.set9) | (with_reducible apply Holds.set4) | (with_reducible apply Holds.set2) | (with_reducible apply Holds.putL) | ((with_reducible refine Holds.new' _ _ ?_); (simp; done)) | (with_reducible refine Holds.alloc ?_ _) | (with_reducible refine Holds.drew ?_) | ((with_reducible refine Holds.far ?_ (by simp only [ne_eq]; omega) _)) | rfl)) : Holds _ (bn9) 27 #[.int .i64 p, .int .i64 q]) hb5)
    have HS5 : Hid (Below w4.heap.size w4 w5) := Lib.hid (Below.trans (by (repeat' (first | (with_reducible exact Below.refl _ _) | (with_reducible assumption) | (with_reducible refine Below.alloc ?_ ?_ _) | (with_reducible refine Below.drew ?_) | (with_reducible refine Below.setCell ?_ ?_ _) | (with_reducible exact Nat.le_refl _) | omega | (simp only [World.size_alloc, World.size_setCell, World.size_drew]; omega) | (simp; omega) | (simp; done)))) (hb5.mono (by first | exact Nat.le_refl _ | omega | (simp; done) | (simp; omega))))
    have HB5 : Hid (Below w.heap.size w w5) := Lib.hid (HB4.out.trans (HS5.out.mono hs4))
    have hs5 := HB5.out.size
    have hst5 := HS5.out.size
    have HA5 := Lib.hid (HA4.out.up HS5.out)
    clear hb5
    have HB5c := Lib.hid hB5
    clear hB5
    clear kb0 kb1 kb2 kb3 kb4 kb5 kb6 kb7 kb8 zb0 zb1 zb2 zb3 zb4 zb5 zb6 zb7 zb8 lt_b km0 km1 lt_m kr0 kr1 kr2 kr3 kr4 kr5 kr6 kr7 kr8 zr0 zr1 zr2 zr3 zr4 zr5 zr6 zr7 zr8 lt_r
    have kb0 : w5.cell? ⟨w.heap.size, 0, none⟩ = some (.int .i64 b.cool) := Hb5.out.cell 0
    have kb1 : w5.cell? ⟨w.heap.size, 1, none⟩ = some (.int .i64 b.gangs) := Hb5.out.cell 1
    have kb2 : w5.cell? ⟨w.heap.size, 2, none⟩ = some (.int .i64 b.r0) := Hb5.out.cell 2
    have kb3 : w5.cell? ⟨w.heap.size, 3, none⟩ = some (.int .i64 b.r1) := Hb5.out.cell 3
    have kb4 : w5.cell? ⟨w.heap.size, 4, none⟩ = some (.int .i64 b.r2) := Hb5.out.cell 4
    have kb5 : w5.cell? ⟨w.heap.size, 5, none⟩ = some (.int .i64 b.r3) := Hb5.out.cell 5
    have kb6 : w5.cell? ⟨w.heap.size, 6, none⟩ = some (.int .i64 b.r4) := Hb5.out.cell 6
    have kb7 : w5.cell? ⟨w.heap.size, 7, none⟩ = some (.int .i64 b.r5) := Hb5.out.cell 7
    have kb8 : w5.cell? ⟨w.heap.size, 8, none⟩ = some (.slice (some ⟨E0, oo, none⟩) bs.length c) := Hb5.out.cell 8
    have zb0 : w5.frozen? ⟨w.heap.size, 0, none⟩ = false := Hb5.out.frozen 0
    have zb1 : w5.frozen? ⟨w.heap.size, 1, none⟩ = false := Hb5.out.frozen 1
    have zb2 : w5.frozen? ⟨w.heap.size, 2, none⟩ = false := Hb5.out.frozen 2
    have zb3 : w5.frozen? ⟨w.heap.size, 3, none⟩ = false := Hb5.out.frozen 3
    have zb4 : w5.frozen? ⟨w.heap.size, 4, none⟩ = false := Hb5.out.frozen 4
    have zb5 : w5.frozen? ⟨w.heap.size, 5, none⟩ = false := Hb5.out.frozen 5
    have zb6 : w5.frozen? ⟨w.heap.size, 6, none⟩ = false := Hb5.out.frozen 6
    have zb7 : w5.frozen? ⟨w.heap.size, 7, none⟩ = false := Hb5.out.frozen 7
    have zb8 : w5.frozen? ⟨w.heap.size, 8, none⟩ = false := Hb5.out.frozen 8
    have lt_b : w.heap.size < w5.heap.size := Hb5.out.lt
    have km0 : w5.cell? ⟨bn9, 0, none⟩ = some (.int .i64 p) := Hm5.out.cell 0
    have km1 : w5.cell? ⟨bn9, 1, none⟩ = some (.int .i64 q) := Hm5.out.cell 1
    have lt_m : bn9 < w5.heap.size := Hm5.out.lt
    have kr0 : w5.cell? ⟨w.heap.size + 1 + 1, 0, none⟩ = some (.int .i64 0) := Hr5.out.cell 0
    have kr1 : w5.cell? ⟨w.heap.size + 1 + 1, 1, none⟩ = some (.int .i64 0) := Hr5.out.cell 1
    have kr2 : w5.cell? ⟨w.heap.size + 1 + 1, 2, none⟩ = some (.int .i64 0) := Hr5.out.cell 2
    have kr3 : w5.cell? ⟨w.heap.size + 1 + 1, 3, none⟩ = some (.int .i64 0) := Hr5.out.cell 3
    have kr4 : w5.cell? ⟨w.heap.size + 1 + 1, 4, none⟩ = some (.int .i64 0) := Hr5.out.cell 4
    have kr5 : w5.cell? ⟨w.heap.size + 1 + 1, 5, none⟩ = some (.int .i64 0) := Hr5.out.cell 5
    have kr6 : w5.cell? ⟨w.heap.size + 1 + 1, 6, none⟩ = some (.int .i64 0) := Hr5.out.cell 6
    have kr7 : w5.cell? ⟨w.heap.size + 1 + 1, 7, none⟩ = some (.int .i64 0) := Hr5.out.cell 7
    have kr8 : w5.cell? ⟨w.heap.size + 1 + 1, 8, none⟩ = some (.slice none 0 0) := Hr5.out.cell 8
    have zr0 : w5.frozen? ⟨w.heap.size + 1 + 1, 0, none⟩ = false := Hr5.out.frozen 0
    have zr1 : w5.frozen? ⟨w.heap.size + 1 + 1, 1, none⟩ = false := Hr5.out.frozen 1
    have zr2 : w5.frozen? ⟨w.heap.size + 1 + 1, 2, none⟩ = false := Hr5.out.frozen 2
    have zr3 : w5.frozen? ⟨w.heap.size + 1 + 1, 3, none⟩ = false := Hr5.out.frozen 3
    have zr4 : w5.frozen? ⟨w.heap.size + 1 + 1, 4, none⟩ = false := Hr5.out.frozen 4
    have zr5 : w5.frozen? ⟨w.heap.size + 1 + 1, 5, none⟩ = false := Hr5.out.frozen 5
    have zr6 : w5.frozen? ⟨w.heap.size + 1 + 1, 6, none⟩ = false := Hr5.out.frozen 6
    have zr7 : w5.frozen? ⟨w.heap.size + 1 + 1, 7, none⟩ = false := Hr5.out.frozen 7
    have zr8 : w5.frozen? ⟨w.heap.size + 1 + 1, 8, none⟩ = false := Hr5.out.frozen 8
    have lt_r : w.heap.size + 1 + 1 < w5.heap.size := Hr5.out.lt
    obtain ⟨w6, hw6⟩ : ∃ z, z = w5.setRow w.heap.size #[.int .i64 b.cool, .int .i64 b.gangs, .int .i64 b.r0, .int .i64 b.r1, .int .i64 b.r2, .int .i64 b.r3, .int .i64 b.r4, .int .i64 b.r5, .slice (some ⟨B5, 0, none⟩) bs.length bs.length] := ⟨_, rfl⟩
    have hrun6 := store_barn w5 w.heap.size (.int .i64 b.cool) (.int .i64 b.gangs) (.int .i64 b.r0) (.int .i64 b.r1) (.int .i64 b.r2) (.int .i64 b.r3) (.int .i64 b.r4) (.int .i64 b.r5) (.slice (some ⟨E0, oo, none⟩) bs.length c) (.int .i64 b.cool)  (.int .i64 b.gangs)  (.int .i64 b.r0)  (.int .i64 b.r1)  (.int .i64 b.r2)  (.int .i64 b.r3)  (.int .i64 b.r4)  (.int .i64 b.r5)  (.slice (some ⟨B5, 0, none⟩) bs.length bs.length) Hb5.out
    rw [← hw6] at hrun6
    have hne5 : B5 ≠ w.heap.size := by have := Hr4.out.lt; omega
    have hbm : bn9 ≠ w.heap.size := by have h1 := Hb3.out.lt; have h2 := fn9_1; omega
    have hne6 : B5 ≠ w.heap.size + 1 + 1 := by have := Hr4.out.lt; omega
    have hnr : w.heap.size + 1 + 1 ≠ w.heap.size := by omega
    have Hb6 := Lib.hid (hw6 ▸ setRow_heap w5 _ _ _ _ _ Hb5.out : Holds w6 w.heap.size 25 #[.int .i64 b.cool, .int .i64 b.gangs, .int .i64 b.r0, .int .i64 b.r1, .int .i64 b.r2, .int .i64 b.r3, .int .i64 b.r4, .int .i64 b.r5, .slice (some ⟨B5, 0, none⟩) bs.length bs.length])
    have HO6 := Lib.hid ((by rw [hw6]; exact (setRow_other w5 _ B5 _ hne5).trans HB5c.out) : Holds w6 B5 39 (bs.flatMap Bn.cells).toArray)
    have Hm6 := Lib.hid ((by rw [hw6]; exact (setRow_other w5 _ bn9 _ hbm).trans Hm5.out) : Holds w6 bn9 27 #[.int .i64 p, .int .i64 q])
    have Hr6 := Lib.hid ((by rw [hw6]; exact (setRow_other w5 _ _ _ hnr).trans Hr5.out) : Holds w6 (w.heap.size + 1 + 1) 25 #[.int .i64 0, .int .i64 0, .int .i64 0, .int .i64 0, .int .i64 0, .int .i64 0, .int .i64 0, .int .i64 0, .slice none 0 0])
    have HB6 : Hid (Below w.heap.size w w6) := Lib.hid (by rw [hw6]; exact below_row HB5.out (Nat.le_refl _) _)
    have hs6 := HB6.out.size
    have hrun7 := store_damp w6 B5 k bs x p q 39 HX.out HO6.out
    obtain ⟨w7, hw7⟩ : ∃ z, z = w6.setRow B5 ((bs.set k ⟨x.warm, x.mark, p, q⟩).flatMap Bn.cells).toArray := ⟨_, rfl⟩
    rw [← hw7] at hrun7
    have HO7 : Hid (Holds w7 B5 39 ((bs.set k ⟨x.warm, x.mark, p, q⟩).flatMap Bn.cells).toArray) := Lib.hid (hw7 ▸ setRow_heap w6 _ _ _ _ _ HO6.out)
    have HB7 : Hid (Below w.heap.size w w7) := Lib.hid (by rw [hw7]; exact below_row HB6.out (by omega) _)
    have Hb7 := Lib.hid ((by rw [hw7]; exact (setRow_other w6 B5 _ _ (fun e => hne5 e.symm)).trans Hb6.out) : Holds w7 w.heap.size 25 #[.int .i64 b.cool, .int .i64 b.gangs, .int .i64 b.r0, .int .i64 b.r1, .int .i64 b.r2, .int .i64 b.r3, .int .i64 b.r4, .int .i64 b.r5, .slice (some ⟨B5, 0, none⟩) bs.length bs.length])
    have Hr7 := Lib.hid ((by rw [hw7]; exact (setRow_other w6 B5 _ _ (fun e => hne6 e.symm)).trans Hr6.out) : Holds w7 (w.heap.size + 1 + 1) 25 #[.int .i64 0, .int .i64 0, .int .i64 0, .int .i64 0, .int .i64 0, .int .i64 0, .int .i64 0, .int .i64 0, .slice none 0 0])
    clear hw6 hw7
    clear km0 km1 lt_m kr0 kr1 kr2 kr3 kr4 kr5 kr6 kr7 kr8 zr0 zr1 zr2 zr3 zr4 zr5 zr6 zr7 zr8 lt_r
    have hm60 : w6.cell? ⟨bn9, 0, none⟩ = some (.int .i64 p) := Hm6.out.cell 0
    have hm61 : w6.cell? ⟨bn9, 1, none⟩ = some (.int .i64 q) := Hm6.out.cell 1
    have ltm6 := Hm6.out.lt
    have kb68 : w6.cell? ⟨w.heap.size, 8, none⟩ = some (.slice (some ⟨B5, 0, none⟩) bs.length bs.length) := Hb6.out.cell 8
    have ltb6 := Hb6.out.lt
    have ky0 : w7.cell? ⟨w.heap.size, 0, none⟩ = some (.int .i64 b.cool) := Hb7.out.cell 0
    have ky1 : w7.cell? ⟨w.heap.size, 1, none⟩ = some (.int .i64 b.gangs) := Hb7.out.cell 1
    have ky2 : w7.cell? ⟨w.heap.size, 2, none⟩ = some (.int .i64 b.r0) := Hb7.out.cell 2
    have ky3 : w7.cell? ⟨w.heap.size, 3, none⟩ = some (.int .i64 b.r1) := Hb7.out.cell 3
    have ky4 : w7.cell? ⟨w.heap.size, 4, none⟩ = some (.int .i64 b.r2) := Hb7.out.cell 4
    have ky5 : w7.cell? ⟨w.heap.size, 5, none⟩ = some (.int .i64 b.r3) := Hb7.out.cell 5
    have ky6 : w7.cell? ⟨w.heap.size, 6, none⟩ = some (.int .i64 b.r4) := Hb7.out.cell 6
    have ky7 : w7.cell? ⟨w.heap.size, 7, none⟩ = some (.int .i64 b.r5) := Hb7.out.cell 7
    have ky8 : w7.cell? ⟨w.heap.size, 8, none⟩ = some (.slice (some ⟨B5, 0, none⟩) bs.length bs.length) := Hb7.out.cell 8
    have kz0 : w7.cell? ⟨w.heap.size + 1 + 1, 0, none⟩ = some (.int .i64 0) := Hr7.out.cell 0
    have kz1 : w7.cell? ⟨w.heap.size + 1 + 1, 1, none⟩ = some (.int .i64 0) := Hr7.out.cell 1
    have kz2 : w7.cell? ⟨w.heap.size + 1 + 1, 2, none⟩ = some (.int .i64 0) := Hr7.out.cell 2
    have kz3 : w7.cell? ⟨w.heap.size + 1 + 1, 3, none⟩ = some (.int .i64 0) := Hr7.out.cell 3
    have kz4 : w7.cell? ⟨w.heap.size + 1 + 1, 4, none⟩ = some (.int .i64 0) := Hr7.out.cell 4
    have kz5 : w7.cell? ⟨w.heap.size + 1 + 1, 5, none⟩ = some (.int .i64 0) := Hr7.out.cell 5
    have kz6 : w7.cell? ⟨w.heap.size + 1 + 1, 6, none⟩ = some (.int .i64 0) := Hr7.out.cell 6
    have kz7 : w7.cell? ⟨w.heap.size + 1 + 1, 7, none⟩ = some (.int .i64 0) := Hr7.out.cell 7
    have kz8 : w7.cell? ⟨w.heap.size + 1 + 1, 8, none⟩ = some (.slice none 0 0) := Hr7.out.cell 8
    have zz0 : w7.frozen? ⟨w.heap.size + 1 + 1, 0, none⟩ = false := Hr7.out.frozen 0
    have zz1 : w7.frozen? ⟨w.heap.size + 1 + 1, 1, none⟩ = false := Hr7.out.frozen 1
    have zz2 : w7.frozen? ⟨w.heap.size + 1 + 1, 2, none⟩ = false := Hr7.out.frozen 2
    have zz3 : w7.frozen? ⟨w.heap.size + 1 + 1, 3, none⟩ = false := Hr7.out.frozen 3
    have zz4 : w7.frozen? ⟨w.heap.size + 1 + 1, 4, none⟩ = false := Hr7.out.frozen 4
    have zz5 : w7.frozen? ⟨w.heap.size + 1 + 1, 5, none⟩ = false := Hr7.out.frozen 5
    have zz6 : w7.frozen? ⟨w.heap.size + 1 + 1, 6, none⟩ = false := Hr7.out.frozen 6
    have zz7 : w7.frozen? ⟨w.heap.size + 1 + 1, 7, none⟩ = false := Hr7.out.frozen 7
    have zz8 : w7.frozen? ⟨w.heap.size + 1 + 1, 8, none⟩ = false := Hr7.out.frozen 8
    have lty := Hb7.out.lt
    have ltz := Hr7.out.lt
    go_wp2_with (first | (refine wpList_store_run _ rfl 25 _ _ rfl ⟨w.heap.size, 0, none⟩ rfl rfl hrun6 ?_) | (refine wpList_store_run _ rfl 27 _ _ rfl ⟨B5, k * 4 + 2, none⟩ rfl rfl hrun7 ?_))
    refine ret_cell2 (t := 25) (cs := #[.int .i64 b.cool, .int .i64 b.gangs, .int .i64 b.r0, .int .i64 b.r1, .int .i64 b.r2, .int .i64 b.r3, .int .i64 b.r4, .int .i64 b.r5, .slice (some ⟨B5, 0, none⟩) bs.length bs.length]) rfl rfl rfl (Holds.set9 _ _ _ _ _ _ _ _ _ Hr7.out) Try.underlying25 rfl (by kernel_rfl) rfl ⟨B5, rfl, ?_, by omega, HB7.out.trans (by (repeat' (first | (with_reducible exact Below.refl _ _) | (with_reducible assumption) | (with_reducible refine Below.alloc ?_ ?_ _) | (with_reducible refine Below.drew ?_) | (with_reducible refine Below.setCell ?_ ?_ _) | (with_reducible exact Nat.le_refl _) | omega | (simp only [World.size_alloc, World.size_setCell, World.size_drew]; omega) | (simp; omega) | (simp; done))))⟩
    exact Holds.far9 HO7.out hne6
end Go.Proofs.Ytfghfmlcfbkmjaa
