
import Derived.Test.YtifffonoipapgaaTAA
import Derived.Test.YtifffonoipapgaaTAC
import Derived.Test.YtifffonoipapgaaTBF
import Derived.Test.YtifffonoipapgaaTBI
import Derived.Test.YtifffonoipapgaaTBJ
import Derived.Test.YtifffonoipapgaaTBQ
import Derived.Test.YtifffonoipapgaaTBR
import Derived.Test.YtifffonoipapgaaTBS
set_option linter.unusedSimpArgs false
set_option linter.unusedVariables false
namespace Go.Proofs.Ytifffonoipapgaa
open Go.RowKit
def fitL (miss : Int) (hs : List Hf) : List Mx := listOf miss hs (preM 41 0 0) 0
theorem fitL_len (miss : Int) (hs : List Hf) : (fitL miss hs).length ≤ 80000 := Nat.le_trans (listOf_len _ _ _ _) (Nat.le_trans (pre_len 41 0 0) (by decide))
theorem fitL_mem {miss : Int} {hs : List Hf} (hn : ∀ x ∈ hs, x.enough = true) {m : Mx} : m ∈ fitL miss hs ↔ Mix4 m.a m.b m.c m.d ∧ (boundsOf miss (fun _ => true) hs).has m.a m.b m.c m.d := by
 unfold fitL listOf
 rw [List.mem_filter, mem_all, beq_iff_eq, missTo_zero]
 constructor
 ·rintro ⟨h1, h2⟩
  refine ⟨h1, ?_⟩
  rw [← holds_has, holds_all hn h1]
  exact h2
 ·rintro ⟨h1, h2⟩
  refine ⟨h1, ?_⟩
  rw [← holds_all hn h1, holds_has]
  exact h2
theorem fitL_in {miss : Int} {hs : List Hf} (hn : ∀ x ∈ hs, x.enough = true) {a b c d : Int} (hs4 : a + b + c + d = 40) (h : (boundsOf miss (fun _ => true) hs).has a b c d) : (⟨a, b, c, d⟩ : Mx) ∈ fitL miss hs := (fitL_mem hn).2 ⟨box_mix (bounds_ok miss _ hs) h hs4, h⟩
theorem fitL_nil {miss : Int} {hs : List Hf} (hn : ∀ x ∈ hs, x.enough = true) : (boundsOf miss (fun _ => true) hs).empty = true ↔ (fitL miss hs).length = 0 := by
 constructor
 ·intro h
  cases hl : fitL miss hs with
  | nil => rfl
  | cons m l =>
   have hm : m ∈ fitL miss hs := by rw [hl]; simp
   obtain ⟨h1, h2⟩ := (fitL_mem hn).1 hm
   rw [bounds_nonempty h1.sum h2] at h
   cases h
 ·intro h
  cases he : (boundsOf miss (fun _ => true) hs).empty with
  | true => rfl
  | false =>
   have t := bounds_tight he
   obtain ⟨x, y, z, e, hh⟩ := t.at0 (Int.le_refl _) t.k0
   have := fitL_in hn e hh
   rw [List.length_eq_zero_iff.1 h] at this
   cases this
theorem fitL_some {miss : Int} {hs : List Hf} (hn : ∀ x ∈ hs, x.enough = true) (h : 0 < (fitL miss hs).length) : (boundsOf miss (fun _ => true) hs).empty = false := by
 cases he : (boundsOf miss (fun _ => true) hs).empty with
 | false => rfl
 | true => have := (fitL_nil hn).1 he; omega
theorem tab_zero {w : World} {O B : Nat} {f : Nat → Value} {L : Nat → List Mx} (h : Tab w O B f f L) : ∃ A q, w.cell? ⟨O, 0, none⟩ = some (.slice A (L 0).length q) ∧ MixAt w A (L 0) := by
 obtain ⟨A, q, e, _, hm⟩ := mixrow_of (h.2.1 0 (by decide))
 exact ⟨A, q, (h.1.cell (by decide)).trans (congrArg some e), hm⟩
def Bx.zero : Bx := ⟨0, 0, 0, 0, 0, 0, 0, 0⟩
def boundErr (E : Int) (B : Bx) : Int := if E ≠ 0 then E else if B.empty then 7 else 0
theorem boundErr_bad {E : Int} {B : Bx} (h : E ≠ 0) : boundErr E B = E := if_pos h
theorem boundErr_clash {B : Bx} (h : B.empty = true) : boundErr 0 B = 7 := by unfold boundErr; rw [if_neg (by simp), if_pos h]
theorem boundErr_ok {B : Bx} (h : B.empty = false) : boundErr 0 B = 0 := by unfold boundErr; rw [if_neg (by simp), if_neg (by simp [h])]
theorem within_bel (n lo hi : Int) (w : World) : Calls Try.prog 82 #[.int .i64 n, .int .i64 lo, .int .i64 hi] w fun e w' => e = .returned (.bool (within n lo hi)) ∧ Below w.heap.size w w' := (within_any n lo hi w).mono fun e w' h => ⟨h.1, Below.of_eq h.2⟩
set_option maxRecDepth 100000 in
set_option maxHeartbeats 8000000 in
theorem Show_not (err miss : Int) (G : Option Addr) (d : Nat) (gs : List Gr) (full emp : Int) (A : Option Addr) (c : Nat) (hs : List Hf) (w : World) (hG : GradesAt w G gs) (hgl : gs.length ≤ 1000) (hA : HandsAt w A hs) (hl : hs.length ≤ 1000) (k : Int) (he : bothErr err miss gs full emp hs = 0) (hk : within k (-1) ((gs.length : Int) - 1) = false) :
  Calls Try.prog 60 #[.agg #[.int .i64 err, .int .i64 miss, .slice G gs.length d], .agg #[.int .i64 full, .int .i64 emp, .slice A hs.length c], .int .i64 k] w fun e w' => e = .returned (.tuple #[.agg #[.int .i64 0, .int .i64 0, .int .i64 0, .int .i64 0], .int .i64 1]) ∧ Below w.heap.size w w' := by
 have HG := Lib.hid hG
 have HA := Lib.hid hA
 have HE := Lib.hid he
 clear hG hA
 have hq : (bothErr err miss gs full emp hs != 0) = false := by simp [he]
 obtain ⟨hg0, hc0⟩ := bothErr_zero he
 obtain ⟨_, r0, r1, i0, i1, _, _⟩ := gateErr_zero hg0
 obtain ⟨_, f0, f1, e0, e1, ht, hn⟩ := cartErr_zero hc0
 have HT := Lib.hid ht
 have HN := Lib.hid hn
 clear he hg0 hc0 ht hn
 have HK := Lib.hid hk
 clear hk
 go_enter Try.func60, Try.ntmps60
 go_wp2_with fail
 refine (arrive_at err miss full emp G A d c gs hs _ (HG.out.up zg) hgl (HA.out.up zg) hl HE.out).mono ?_
 rintro e wa ⟨rfl, hba⟩
 have Hra := Lib.hid (Holds.up (zp4 : Holds _ (w.heap.size + 1 + 1) 28 #[.int .i64 0, .int .i64 0, .int .i64 0, .int .i64 0]) hba)
 have Hga := Lib.hid (Holds.up (zp4 : Holds _ (w.heap.size) 24 #[.int .i64 err, .int .i64 miss, .slice G gs.length d]) hba)
 have HSa : Hid (Below w.heap.size w wa) := Lib.hid (Below.trans zg (hba.mono (by first | exact Nat.le_refl _ | omega | (simp; done) | (simp; omega))))
 have HBa := HSa
 have hsa := HBa.out.size
 have hsta := HSa.out.size
 have HGa := Lib.hid (HG.out.up HSa.out)
 have HAa := Lib.hid (HA.out.up HSa.out)
 clear hba
 obtain ⟨kr0, kr1, kr2, kr3⟩ := Hra.out.c4
 obtain ⟨zr0, zr1, zr2, zr3⟩ := Hra.out.f4
 have lt_r : w.heap.size + 1 + 1 < wa.heap.size := Hra.out.lt
 obtain ⟨kg0, kg1, kg2⟩ := Hga.out.c3
 have lt_g : w.heap.size < wa.heap.size := Hga.out.lt
 have l1_r := Nat.lt_succ_of_lt lt_r
 have l1_g := Nat.lt_succ_of_lt lt_g
 go_wp2_with fail
 refine (within_bel _ _ _ _).mono ?_
 rw [HK.out]
 rintro e wb ⟨rfl, hbb⟩
 have Hrb := Lib.hid (Holds.up (by have h := Hra.out; exact zp4 : Holds _ (w.heap.size + 1 + 1) 28 #[.int .i64 0, .int .i64 0, .int .i64 0, .int .i64 0]) hbb)
 have Hgb := Lib.hid (Holds.up (by have h := Hga.out; exact zp4 : Holds _ (w.heap.size) 24 #[.int .i64 err, .int .i64 miss, .slice G gs.length d]) hbb)
 have HSb : Hid (Below wa.heap.size wa wb) := Lib.hid (Below.trans zg (hbb.mono (by first | exact Nat.le_refl _ | omega | (simp; done) | (simp; omega))))
 have HBb : Hid (Below w.heap.size w wb) := Lib.hid (HBa.out.trans (HSb.out.mono hsa))
 have hsb := HBb.out.size
 have hstb := HSb.out.size
 have HGb := Lib.hid (HGa.out.up HSb.out)
 have HAb := Lib.hid (HAa.out.up HSb.out)
 clear hbb
 clear kr0 kr1 kr2 kr3 zr0 zr1 zr2 zr3 lt_r kg0 kg1 kg2 lt_g
 obtain ⟨kr0, kr1, kr2, kr3⟩ := Hrb.out.c4
 obtain ⟨zr0, zr1, zr2, zr3⟩ := Hrb.out.f4
 have lt_r : w.heap.size + 1 + 1 < wb.heap.size := Hrb.out.lt
 go_wp2_with fail
 refine ret_cell2 (t := 28) rfl rfl rfl ?_ Try.underlying28 rfl (by kernel_rfl) rfl ⟨rfl, HBb.out.trans zg⟩
 exact (by have h := Hrb.out; exact zp7)
set_option maxRecDepth 100000 in
set_option maxHeartbeats 8000000 in
theorem Show_clash (err miss : Int) (G : Option Addr) (d : Nat) (gs : List Gr) (full emp : Int) (A : Option Addr) (c : Nat) (hs : List Hf) (w : World) (hG : GradesAt w G gs) (hgl : gs.length ≤ 1000) (hA : HandsAt w A hs) (hl : hs.length ≤ 1000) (k : Int) (he : bothErr err miss gs full emp hs = 0) (hk : within k (-1) ((gs.length : Int) - 1) = true) (hx : (boundsOf miss (fun _ => true) hs).empty = true) :
  Calls Try.prog 60 #[.agg #[.int .i64 err, .int .i64 miss, .slice G gs.length d], .agg #[.int .i64 full, .int .i64 emp, .slice A hs.length c], .int .i64 k] w fun e w' => e = .returned (.tuple #[.agg #[.int .i64 0, .int .i64 0, .int .i64 0, .int .i64 0], .int .i64 7]) ∧ Below w.heap.size w w' := by
 have HG := Lib.hid hG
 have HA := Lib.hid hA
 have HE := Lib.hid he
 clear hG hA
 have hq : (bothErr err miss gs full emp hs != 0) = false := by simp [he]
 obtain ⟨hg0, hc0⟩ := bothErr_zero he
 obtain ⟨_, r0, r1, i0, i1, _, _⟩ := gateErr_zero hg0
 obtain ⟨_, f0, f1, e0, e1, ht, hn⟩ := cartErr_zero hc0
 have HT := Lib.hid ht
 have HN := Lib.hid hn
 clear he hg0 hc0 ht hn
 have HK := Lib.hid hk
 clear hk
 obtain ⟨B, hB⟩ : ∃ z, boundsOf miss (fun _ => true) hs = z := ⟨_, rfl⟩
 rw [hB] at hx
 have HB_ := Lib.hid hB
 have HX := Lib.hid hx
 clear hB hx
 go_enter Try.func60, Try.ntmps60
 go_wp2_with fail
 refine (arrive_at err miss full emp G A d c gs hs _ (HG.out.up zg) hgl (HA.out.up zg) hl HE.out).mono ?_
 rintro e wa ⟨rfl, hba⟩
 have Hra := Lib.hid (Holds.up (zp4 : Holds _ (w.heap.size + 1 + 1) 28 #[.int .i64 0, .int .i64 0, .int .i64 0, .int .i64 0]) hba)
 have Hga := Lib.hid (Holds.up (zp4 : Holds _ (w.heap.size) 24 #[.int .i64 err, .int .i64 miss, .slice G gs.length d]) hba)
 have HSa : Hid (Below w.heap.size w wa) := Lib.hid (Below.trans zg (hba.mono (by first | exact Nat.le_refl _ | omega | (simp; done) | (simp; omega))))
 have HBa := HSa
 have hsa := HBa.out.size
 have hsta := HSa.out.size
 have HGa := Lib.hid (HG.out.up HSa.out)
 have HAa := Lib.hid (HA.out.up HSa.out)
 clear hba
 obtain ⟨kr0, kr1, kr2, kr3⟩ := Hra.out.c4
 obtain ⟨zr0, zr1, zr2, zr3⟩ := Hra.out.f4
 have lt_r : w.heap.size + 1 + 1 < wa.heap.size := Hra.out.lt
 obtain ⟨kg0, kg1, kg2⟩ := Hga.out.c3
 have lt_g : w.heap.size < wa.heap.size := Hga.out.lt
 have l1_r := Nat.lt_succ_of_lt lt_r
 have l1_g := Nat.lt_succ_of_lt lt_g
 go_wp2_with fail
 refine (within_bel _ _ _ _).mono ?_
 rw [HK.out]
 rintro e wb ⟨rfl, hbb⟩
 have Hrb := Lib.hid (Holds.up (by have h := Hra.out; exact zp4 : Holds _ (w.heap.size + 1 + 1) 28 #[.int .i64 0, .int .i64 0, .int .i64 0, .int .i64 0]) hbb)
 have Hgb := Lib.hid (Holds.up (by have h := Hga.out; exact zp4 : Holds _ (w.heap.size) 24 #[.int .i64 err, .int .i64 miss, .slice G gs.length d]) hbb)
 have Htb := Lib.hid (Holds.up (zp4 : Holds _ (wa.heap.size) 147 #[.int .i64 full, .int .i64 emp, .slice A hs.length c, .int .i64 err, .int .i64 miss, .slice G gs.length d, .func (.func 99) #[.agg #[.int .i64 full, .int .i64 emp, .slice A hs.length c]] #[]]) hbb)
 have HSb : Hid (Below wa.heap.size wa wb) := Lib.hid (Below.trans zg (hbb.mono (by first | exact Nat.le_refl _ | omega | (simp; done) | (simp; omega))))
 have HBb : Hid (Below w.heap.size w wb) := Lib.hid (HBa.out.trans (HSb.out.mono hsa))
 have hsb := HBb.out.size
 have hstb := HSb.out.size
 have HGb := Lib.hid (HGa.out.up HSb.out)
 have HAb := Lib.hid (HAa.out.up HSb.out)
 clear hbb
 clear kr0 kr1 kr2 kr3 zr0 zr1 zr2 zr3 lt_r kg0 kg1 kg2 lt_g
 obtain ⟨kr0, kr1, kr2, kr3⟩ := Hrb.out.c4
 obtain ⟨zr0, zr1, zr2, zr3⟩ := Hrb.out.f4
 have lt_r : w.heap.size + 1 + 1 < wb.heap.size := Hrb.out.lt
 obtain ⟨kt0, kt1, kt2, kt3, kt4, kt5, kt6⟩ := Htb.out.c7
 have lt_t : wa.heap.size < wb.heap.size := Htb.out.lt
 go_wp2_with fail
 refine (bounds_B B HB_.out full emp err A c (.slice G gs.length d) _ (HAb.out.up zg) hl i0 i1 HT.out HN.out).mono ?_
 rintro e wc ⟨rfl, hbc⟩
 have Hrc := Lib.hid (Holds.up (by have h := Hrb.out; exact zp4 : Holds _ (w.heap.size + 1 + 1) 28 #[.int .i64 0, .int .i64 0, .int .i64 0, .int .i64 0]) hbc)
 have Hgc := Lib.hid (Holds.up (by have h := Hgb.out; exact zp4 : Holds _ (w.heap.size) 24 #[.int .i64 err, .int .i64 miss, .slice G gs.length d]) hbc)
 have Htc := Lib.hid (Holds.up (by have h := Htb.out; exact zp4 : Holds _ (wa.heap.size) 147 #[.int .i64 full, .int .i64 emp, .slice A hs.length c, .int .i64 err, .int .i64 miss, .slice G gs.length d, .func (.func 99) #[.agg #[.int .i64 full, .int .i64 emp, .slice A hs.length c]] #[]]) hbc)
 have HSc : Hid (Below wb.heap.size wb wc) := Lib.hid (Below.trans zg (hbc.mono (by first | exact Nat.le_refl _ | omega | (simp; done) | (simp; omega))))
 have HBc : Hid (Below w.heap.size w wc) := Lib.hid (HBb.out.trans (HSc.out.mono hsb))
 have hsc := HBc.out.size
 have hstc := HSc.out.size
 have HGc := Lib.hid (HGb.out.up HSc.out)
 have HAc := Lib.hid (HAb.out.up HSc.out)
 clear hbc
 clear kr0 kr1 kr2 kr3 zr0 zr1 zr2 zr3 lt_r kt0 kt1 kt2 kt3 kt4 kt5 kt6 lt_t
 obtain ⟨kr0, kr1, kr2, kr3⟩ := Hrc.out.c4
 obtain ⟨zr0, zr1, zr2, zr3⟩ := Hrc.out.f4
 have lt_r : w.heap.size + 1 + 1 < wc.heap.size := Hrc.out.lt
 have lt_r1 : w.heap.size + 1 + 1 < wc.heap.size + 1 := Nat.lt_succ_of_lt lt_r
 go_wp2_with fail
 refine (empty_any B _).mono ?_
 rw [HX.out]
 rintro e wd ⟨rfl, hbd⟩
 have Hrd := Lib.hid (Holds.up (by have h := Hrc.out; exact zp4 : Holds _ (w.heap.size + 1 + 1) 28 #[.int .i64 0, .int .i64 0, .int .i64 0, .int .i64 0]) hbd)
 have Hgd := Lib.hid (Holds.up (by have h := Hgc.out; exact zp4 : Holds _ (w.heap.size) 24 #[.int .i64 err, .int .i64 miss, .slice G gs.length d]) hbd)
 have Htd := Lib.hid (Holds.up (by have h := Htc.out; exact zp4 : Holds _ (wa.heap.size) 147 #[.int .i64 full, .int .i64 emp, .slice A hs.length c, .int .i64 err, .int .i64 miss, .slice G gs.length d, .func (.func 99) #[.agg #[.int .i64 full, .int .i64 emp, .slice A hs.length c]] #[]]) hbd)
 have HSd : Hid (Below wc.heap.size wc wd) := Lib.hid (Below.trans zg (hbd.mono (by first | exact Nat.le_refl _ | omega | (simp; done) | (simp; omega))))
 have HBd : Hid (Below w.heap.size w wd) := Lib.hid (HBc.out.trans (HSd.out.mono hsc))
 have hsd := HBd.out.size
 have hstd := HSd.out.size
 have HGd := Lib.hid (HGc.out.up HSd.out)
 have HAd := Lib.hid (HAc.out.up HSd.out)
 clear hbd
 clear kr0 kr1 kr2 kr3 zr0 zr1 zr2 zr3 lt_r
 obtain ⟨kr0, kr1, kr2, kr3⟩ := Hrd.out.c4
 obtain ⟨zr0, zr1, zr2, zr3⟩ := Hrd.out.f4
 have lt_r : w.heap.size + 1 + 1 < wd.heap.size := Hrd.out.lt
 go_wp2_with fail
 refine ret_cell2 (t := 28) rfl rfl rfl ?_ Try.underlying28 rfl (by kernel_rfl) rfl ⟨rfl, HBd.out.trans zg⟩
 exact (by have h := Hrd.out; exact zp7)
theorem run_neq_same (t : TypeId) (xs : Array Value) (w : World) (h : (Op.equalIn 10000 t (.agg xs) (.agg xs)).run Try.prog w = .ok true w) : (binOp .neq t (.agg xs) (.agg xs)).run Try.prog w = .ok (.bool false) w := by
 have he : (binOp .eql t (.agg xs) (.agg xs)).run Try.prog w = .ok (.bool true) w := by rw [run_eql_struct, h]; rfl
 simp only [binOp, Sem.run_bind] at he ⊢
 generalize (Op.equal t (.agg xs) (.agg xs)).run Try.prog w = r at he ⊢
 cases r <;> simp_all [Result.andThen]

def zIf (W x : Int) : Int := if W = 0 then x else 0
theorem neq_span (a b : Int) (w : World) : (binOp .neq 60 (.agg #[.int .i64 a, .int .i64 b]) (.agg #[.int .i64 a, .int .i64 b])).run Try.prog w = .ok (.bool false) w :=
 run_neq_same _ _ w ((eqlIn_span 9998 a b a b w).trans (by simp))
theorem eql_four (w : World) : (binOp .eql 28 (.agg #[.int .i64 0, .int .i64 0, .int .i64 0, .int .i64 0]) (.agg #[.int .i64 0, .int .i64 0, .int .i64 0, .int .i64 0])).run Try.prog w = .ok (.bool true) w := by kernel_rfl
theorem refAll_zero (err miss : Int) (G : Option Addr) (gl d : Nat) (full emp : Int) (A : Option Addr) (c : Nat) (hs : List Hf) (i0 : 0 ≤ miss) (i1 : miss ≤ 20) (w : World) (hA : HandsAt w A hs) (h6 : hs.length ≤ 6) (ht : ∀ x ∈ hs, x.taken = true) :
  Calls Try.prog 41 #[.agg #[.int .i64 err, .int .i64 miss, .slice G gl d], .agg #[.int .i64 full, .int .i64 emp, .slice A hs.length c]] w fun e w' => ∃ (O : Nat) (Aq : Option Addr) (qq : Nat), e = .returned (.slice (some ⟨O, 0, none⟩) 64 64) ∧ w'.cell? ⟨O, 0, none⟩ = some (.slice Aq (fitL miss hs).length qq) ∧ MixAt w' Aq (fitL miss hs) ∧ Below w.heap.size w w' :=
 (refAll_any err miss G gl d full emp A c hs i0 i1 w hA h6 ht).mono fun e w' ⟨f, he, ht, hb⟩ => by
  obtain ⟨Aq, qq, hk, hm⟩ := tab_zero ht
  exact ⟨_, Aq, qq, he, hk, hm, hb⟩
end Go.Proofs.Ytifffonoipapgaa
