
import Derived.Test.YtifffonoipapgaaLAA
import Derived.Test.YtifffonoipapgaaBAC
import Derived.Test.YtifffonoipapgaaBBI
import Derived.Test.YtifffonoipapgaaBBM
import Derived.Test.YtifffonoipapgaaBBN
import Derived.Test.YtifffonoipapgaaBBV
import Derived.Test.YtifffonoipapgaaBBX
import Derived.Test.YtifffonoipapgaaBBY
set_option linter.unusedSimpArgs false
set_option linter.unusedVariables false
namespace Go.Proofs.Ytifffonoipapgaa
open Go.RowKit
def fitL (miss : Int) (hs : List Hf) : List Mx := listOf miss hs (preM 41 0 0) 0
theorem fitL_len (miss : Int) (hs : List Hf) : (fitL miss hs).length ≤ 80000 := Nat.le_trans (listOf_len _ _ _ _) (Nat.le_trans (pre_len 41 0 0) (by decide))
theorem fitL_mem {miss : Int} {hs : List Hf} (hn : ∀ x ∈ hs, x.enough = true) {m : Mx} : m ∈ fitL miss hs ↔ Mix4 m.a m.b m.c m.d ∧ (boundsOf miss (fun _ => true) hs).has m.a m.b m.c m.d := by
 unfold fitL listOf
 rw [List.mem_filter, mem_all, beq_iff_eq, missTo_zero]
 constructor
 ·rintro ⟨h1, h2⟩
  refine ⟨h1, ?_⟩
  rw [← holds_has, holds_all hn h1]
  exact h2
 ·rintro ⟨h1, h2⟩
  refine ⟨h1, ?_⟩
  rw [← holds_all hn h1, holds_has]
  exact h2
theorem fitL_in {miss : Int} {hs : List Hf} (hn : ∀ x ∈ hs, x.enough = true) {a b c d : Int} (hs4 : a + b + c + d = 40) (h : (boundsOf miss (fun _ => true) hs).has a b c d) : (⟨a, b, c, d⟩ : Mx) ∈ fitL miss hs := (fitL_mem hn).2 ⟨box_mix (bounds_ok miss _ hs) h hs4, h⟩
theorem fitL_nil {miss : Int} {hs : List Hf} (hn : ∀ x ∈ hs, x.enough = true) : (boundsOf miss (fun _ => true) hs).empty = true ↔ (fitL miss hs).length = 0 := by
 constructor
 ·intro h
  cases hl : fitL miss hs with
  | nil => rfl
  | cons m l =>
   have hm : m ∈ fitL miss hs := by rw [hl]; simp
   obtain ⟨h1, h2⟩ := (fitL_mem hn).1 hm
   rw [bounds_nonempty h1.sum h2] at h
   cases h
 ·intro h
  cases he : (boundsOf miss (fun _ => true) hs).empty with
  | true => rfl
  | false =>
   have t := bounds_tight he
   obtain ⟨x, y, z, e, hh⟩ := t.at0 (Int.le_refl _) t.k0
   have := fitL_in hn e hh
   rw [List.length_eq_zero_iff.1 h] at this
   cases this
theorem fitL_some {miss : Int} {hs : List Hf} (hn : ∀ x ∈ hs, x.enough = true) (h : 0 < (fitL miss hs).length) : (boundsOf miss (fun _ => true) hs).empty = false := by
 cases he : (boundsOf miss (fun _ => true) hs).empty with
 | false => rfl
 | true => have := (fitL_nil hn).1 he; omega
theorem fitL_lo {miss : Int} {hs : List Hf} (hn : ∀ x ∈ hs, x.enough = true) (k : Nat) (m : Mx) (_ : k < 4) (hm : m ∈ fitL miss hs) : bLo (boundsOf miss (fun _ => true) hs) k ≤ mxk m k ∧ mxk m k ≤ bHi (boundsOf miss (fun _ => true) hs) k := by
 obtain ⟨_, h0, h1, h2, h3⟩ := (fitL_mem hn).1 hm
 unfold bLo bHi mxk gat
 split
 ·exact h0
 ·exact h1
 ·exact h2
 ·exact h3
theorem fitL_at {miss : Int} {hs : List Hf} (hn : ∀ x ∈ hs, x.enough = true) (he : (boundsOf miss (fun _ => true) hs).empty = false) (k : Nat) (hk : k < 4) :
  (∃ m ∈ fitL miss hs, mxk m k = bLo (boundsOf miss (fun _ => true) hs) k) ∧ ∃ m ∈ fitL miss hs, mxk m k = bHi (boundsOf miss (fun _ => true) hs) k := by
 have t := bounds_tight he
 match k, hk with
 | 0, _ =>
  obtain ⟨x, y, z, e, hh⟩ := t.at0 (Int.le_refl _) t.k0
  obtain ⟨x', y', z', e', hh'⟩ := t.at0 t.k0 (Int.le_refl _)
  exact ⟨⟨_, fitL_in hn e hh, rfl⟩, ⟨_, fitL_in hn e' hh', rfl⟩⟩
 | 1, _ =>
  obtain ⟨x, y, z, e, hh⟩ := t.at1 (Int.le_refl _) t.k1
  obtain ⟨x', y', z', e', hh'⟩ := t.at1 t.k1 (Int.le_refl _)
  exact ⟨⟨_, fitL_in hn e hh, rfl⟩, ⟨_, fitL_in hn e' hh', rfl⟩⟩
 | 2, _ =>
  obtain ⟨x, y, z, e, hh⟩ := t.at2 (Int.le_refl _) t.k2
  obtain ⟨x', y', z', e', hh'⟩ := t.at2 t.k2 (Int.le_refl _)
  exact ⟨⟨_, fitL_in hn e hh, rfl⟩, ⟨_, fitL_in hn e' hh', rfl⟩⟩
 | 3, _ =>
  obtain ⟨x, y, z, e, hh⟩ := t.at3 (Int.le_refl _) t.k3
  obtain ⟨x', y', z', e', hh'⟩ := t.at3 t.k3 (Int.le_refl _)
  exact ⟨⟨_, fitL_in hn e hh, rfl⟩, ⟨_, fitL_in hn e' hh', rfl⟩⟩
theorem tab_zero {w : World} {O B : Nat} {f : Nat → Value} {L : Nat → List Mx} (h : Tab w O B f f L) : ∃ A q, w.cell? ⟨O, 0, none⟩ = some (.slice A (L 0).length q) ∧ MixAt w A (L 0) := by
 obtain ⟨A, q, e, _, hm⟩ := mixrow_of (h.2.1 0 (by decide))
 exact ⟨A, q, (h.1.cell (by decide)).trans (congrArg some e), hm⟩
def Bx.zero : Bx := ⟨0, 0, 0, 0, 0, 0, 0, 0⟩
def boundErr (E : Int) (B : Bx) : Int := if E ≠ 0 then E else if B.empty then 7 else 0
theorem boundErr_bad {E : Int} {B : Bx} (h : E ≠ 0) : boundErr E B = E := if_pos h
theorem boundErr_clash {B : Bx} (h : B.empty = true) : boundErr 0 B = 7 := by unfold boundErr; rw [if_neg (by simp), if_pos h]
theorem boundErr_ok {B : Bx} (h : B.empty = false) : boundErr 0 B = 0 := by unfold boundErr; rw [if_neg (by simp), if_neg (by simp [h])]
theorem boundErr_E {E : Int} {B : Bx} (h : boundErr E B = 0) : E = 0 := by
 unfold boundErr at h
 by_cases hE : E = 0
 ·exact hE
 ·rw [if_pos hE] at h; exact absurd h hE
theorem boundErr_B {E : Int} {B : Bx} (h : boundErr E B = 0) : B.empty = false := by
 have hE := boundErr_E h
 subst hE
 cases he : B.empty with
 | false => rfl
 | true => rw [boundErr_clash he] at h; cases h
set_option maxRecDepth 100000 in
set_option maxHeartbeats 8000000 in
theorem Weight_not (err miss : Int) (G : Option Addr) (d : Nat) (gs : List Gr) (full emp : Int) (A : Option Addr) (c : Nat) (hs : List Hf) (w : World) (hG : GradesAt w G gs) (hgl : gs.length ≤ 1000) (hA : HandsAt w A hs) (hl : hs.length ≤ 1000) (k : Int) (he : bothErr err miss gs full emp hs = 0) (hk : (decide (0 ≤ k) && decide (k ≤ 3)) = false) :
  Calls Try.prog 45 #[.agg #[.int .i64 err, .int .i64 miss, .slice G gs.length d], .agg #[.int .i64 full, .int .i64 emp, .slice A hs.length c], .int .i64 k] w fun e w' => e = .returned (.tuple #[.agg #[.int .i64 0, .int .i64 0], .int .i64 1]) ∧ Below w.heap.size w w' := by
 have HG := Lib.hid hG
 have HA := Lib.hid hA
 have HE := Lib.hid he
 clear hG hA
 have hq : (bothErr err miss gs full emp hs != 0) = false := by simp [he]
 obtain ⟨hg0, hc0⟩ := bothErr_zero he
 obtain ⟨_, r0, r1, i0, i1, _, _⟩ := gateErr_zero hg0
 obtain ⟨_, f0, f1, e0, e1, ht, hn⟩ := cartErr_zero hc0
 have HT := Lib.hid ht
 have HN := Lib.hid hn
 clear he hg0 hc0 ht hn
 have HK := Lib.hid hk
 clear hk
 go_enter Try.func45, Try.ntmps45
 go_wp2_with fail
 refine (arrive_at err miss full emp G A d c gs hs _ (HG.out.up zg) hgl (HA.out.up zg) hl HE.out).mono ?_
 rintro e wa ⟨rfl, hba⟩
 have Hra := Lib.hid (Holds.up (zp8 : Holds _ (w.heap.size + 1 + 1) 60 #[.int .i64 0, .int .i64 0]) hba)
 have HSa : Hid (Below w.heap.size w wa) := Lib.hid (Below.trans zg (hba.mono (by first | exact Nat.le_refl _ | omega | (simp; done) | (simp; omega))))
 have HBa := HSa
 have hsa := HBa.out.size
 have hsta := HSa.out.size
 have HGa := Lib.hid (HG.out.up HSa.out)
 have HAa := Lib.hid (HA.out.up HSa.out)
 clear hba
 obtain ⟨kr0, kr1⟩ := Hra.out.c2
 obtain ⟨zr0, zr1⟩ := Hra.out.f2
 have lt_r : w.heap.size + 1 + 1 < wa.heap.size := Hra.out.lt
 go_wp2_with fail
 refine (isKind_bel _ _).mono ?_
 rw [HK.out]
 rintro e wb ⟨rfl, hbb⟩
 have Hrb := Lib.hid (Holds.up (by have h := Hra.out; exact zp8 : Holds _ (w.heap.size + 1 + 1) 60 #[.int .i64 0, .int .i64 0]) hbb)
 have HSb : Hid (Below wa.heap.size wa wb) := Lib.hid (Below.trans zg (hbb.mono (by first | exact Nat.le_refl _ | omega | (simp; done) | (simp; omega))))
 have HBb : Hid (Below w.heap.size w wb) := Lib.hid (HBa.out.trans (HSb.out.mono hsa))
 have hsb := HBb.out.size
 have hstb := HSb.out.size
 have HGb := Lib.hid (HGa.out.up HSb.out)
 have HAb := Lib.hid (HAa.out.up HSb.out)
 clear hbb
 clear kr0 kr1 zr0 zr1 lt_r
 obtain ⟨kr0, kr1⟩ := Hrb.out.c2
 obtain ⟨zr0, zr1⟩ := Hrb.out.f2
 have lt_r : w.heap.size + 1 + 1 < wb.heap.size := Hrb.out.lt
 go_wp2_with fail
 refine ret_cell2 (t := 60) rfl rfl rfl ?_ Try.underlying60 rfl (by kernel_rfl) rfl ⟨rfl, HBb.out.trans zg⟩
 exact (by have h := Hrb.out; exact zp8)
set_option maxRecDepth 100000 in
set_option maxHeartbeats 8000000 in
theorem Weight_clash (err miss : Int) (G : Option Addr) (d : Nat) (gs : List Gr) (full emp : Int) (A : Option Addr) (c : Nat) (hs : List Hf) (w : World) (hG : GradesAt w G gs) (hgl : gs.length ≤ 1000) (hA : HandsAt w A hs) (hl : hs.length ≤ 1000) (k : Int) (he : bothErr err miss gs full emp hs = 0) (hk : (decide (0 ≤ k) && decide (k ≤ 3)) = true) (hx : (boundsOf miss (fun _ => true) hs).empty = true) :
  Calls Try.prog 45 #[.agg #[.int .i64 err, .int .i64 miss, .slice G gs.length d], .agg #[.int .i64 full, .int .i64 emp, .slice A hs.length c], .int .i64 k] w fun e w' => e = .returned (.tuple #[.agg #[.int .i64 0, .int .i64 0], .int .i64 7]) ∧ Below w.heap.size w w' := by
 have HG := Lib.hid hG
 have HA := Lib.hid hA
 have HE := Lib.hid he
 clear hG hA
 have hq : (bothErr err miss gs full emp hs != 0) = false := by simp [he]
 obtain ⟨hg0, hc0⟩ := bothErr_zero he
 obtain ⟨_, r0, r1, i0, i1, _, _⟩ := gateErr_zero hg0
 obtain ⟨_, f0, f1, e0, e1, ht, hn⟩ := cartErr_zero hc0
 have HT := Lib.hid ht
 have HN := Lib.hid hn
 clear he hg0 hc0 ht hn
 have HK := Lib.hid hk
 clear hk
 obtain ⟨B, hB⟩ : ∃ z, boundsOf miss (fun _ => true) hs = z := ⟨_, rfl⟩
 rw [hB] at hx
 have HB_ := Lib.hid hB
 have HX := Lib.hid hx
 clear hB hx
 go_enter Try.func45, Try.ntmps45
 go_wp2_with fail
 refine (arrive_at err miss full emp G A d c gs hs _ (HG.out.up zg) hgl (HA.out.up zg) hl HE.out).mono ?_
 rintro e wa ⟨rfl, hba⟩
 have Hra := Lib.hid (Holds.up (zp8 : Holds _ (w.heap.size + 1 + 1) 60 #[.int .i64 0, .int .i64 0]) hba)
 have HSa : Hid (Below w.heap.size w wa) := Lib.hid (Below.trans zg (hba.mono (by first | exact Nat.le_refl _ | omega | (simp; done) | (simp; omega))))
 have HBa := HSa
 have hsa := HBa.out.size
 have hsta := HSa.out.size
 have HGa := Lib.hid (HG.out.up HSa.out)
 have HAa := Lib.hid (HA.out.up HSa.out)
 clear hba
 obtain ⟨kr0, kr1⟩ := Hra.out.c2
 obtain ⟨zr0, zr1⟩ := Hra.out.f2
 have lt_r : w.heap.size + 1 + 1 < wa.heap.size := Hra.out.lt
 go_wp2_with fail
 refine (isKind_bel _ _).mono ?_
 rw [HK.out]
 rintro e wb ⟨rfl, hbb⟩
 have Hrb := Lib.hid (Holds.up (by have h := Hra.out; exact zp8 : Holds _ (w.heap.size + 1 + 1) 60 #[.int .i64 0, .int .i64 0]) hbb)
 have Htb := Lib.hid (Holds.up (zp8 : Holds _ (wa.heap.size) 147 #[.int .i64 full, .int .i64 emp, .slice A hs.length c, .int .i64 err, .int .i64 miss, .slice G gs.length d, .func (.func 99) #[.agg #[.int .i64 full, .int .i64 emp, .slice A hs.length c]] #[]]) hbb)
 have HSb : Hid (Below wa.heap.size wa wb) := Lib.hid (Below.trans zg (hbb.mono (by first | exact Nat.le_refl _ | omega | (simp; done) | (simp; omega))))
 have HBb : Hid (Below w.heap.size w wb) := Lib.hid (HBa.out.trans (HSb.out.mono hsa))
 have hsb := HBb.out.size
 have hstb := HSb.out.size
 have HGb := Lib.hid (HGa.out.up HSb.out)
 have HAb := Lib.hid (HAa.out.up HSb.out)
 clear hbb
 clear kr0 kr1 zr0 zr1 lt_r
 obtain ⟨kr0, kr1⟩ := Hrb.out.c2
 obtain ⟨zr0, zr1⟩ := Hrb.out.f2
 have lt_r : w.heap.size + 1 + 1 < wb.heap.size := Hrb.out.lt
 obtain ⟨kt0, kt1, kt2, kt3, kt4, kt5, kt6⟩ := Htb.out.c7
 have lt_t : wa.heap.size < wb.heap.size := Htb.out.lt
 go_wp2_with fail
 refine (bounds_B B HB_.out full emp err A c (.slice G gs.length d) _ (HAb.out.up zg) hl i0 i1 HT.out HN.out).mono ?_
 rintro e wc ⟨rfl, hbc⟩
 have Hrc := Lib.hid (Holds.up (by have h := Hrb.out; exact zp8 : Holds _ (w.heap.size + 1 + 1) 60 #[.int .i64 0, .int .i64 0]) hbc)
 have Htc := Lib.hid (Holds.up (by have h := Htb.out; exact zp8 : Holds _ (wa.heap.size) 147 #[.int .i64 full, .int .i64 emp, .slice A hs.length c, .int .i64 err, .int .i64 miss, .slice G gs.length d, .func (.func 99) #[.agg #[.int .i64 full, .int .i64 emp, .slice A hs.length c]] #[]]) hbc)
 have HSc : Hid (Below wb.heap.size wb wc) := Lib.hid (Below.trans zg (hbc.mono (by first | exact Nat.le_refl _ | omega | (simp; done) | (simp; omega))))
 have HBc : Hid (Below w.heap.size w wc) := Lib.hid (HBb.out.trans (HSc.out.mono hsb))
 have hsc := HBc.out.size
 have hstc := HSc.out.size
 have HGc := Lib.hid (HGb.out.up HSc.out)
 have HAc := Lib.hid (HAb.out.up HSc.out)
 clear hbc
 clear kr0 kr1 zr0 zr1 lt_r kt0 kt1 kt2 kt3 kt4 kt5 kt6 lt_t
 obtain ⟨kr0, kr1⟩ := Hrc.out.c2
 obtain ⟨zr0, zr1⟩ := Hrc.out.f2
 have lt_r : w.heap.size + 1 + 1 < wc.heap.size := Hrc.out.lt
 have lt_r1 : w.heap.size + 1 + 1 < wc.heap.size + 1 := Nat.lt_succ_of_lt lt_r
 go_wp2_with fail
 refine (empty_any B _).mono ?_
 rw [HX.out]
 rintro e wd ⟨rfl, hbd⟩
 have Hrd := Lib.hid (Holds.up (by have h := Hrc.out; exact zp8 : Holds _ (w.heap.size + 1 + 1) 60 #[.int .i64 0, .int .i64 0]) hbd)
 have Htd := Lib.hid (Holds.up (by have h := Htc.out; exact zp8 : Holds _ (wa.heap.size) 147 #[.int .i64 full, .int .i64 emp, .slice A hs.length c, .int .i64 err, .int .i64 miss, .slice G gs.length d, .func (.func 99) #[.agg #[.int .i64 full, .int .i64 emp, .slice A hs.length c]] #[]]) hbd)
 have HSd : Hid (Below wc.heap.size wc wd) := Lib.hid (Below.trans zg (hbd.mono (by first | exact Nat.le_refl _ | omega | (simp; done) | (simp; omega))))
 have HBd : Hid (Below w.heap.size w wd) := Lib.hid (HBc.out.trans (HSd.out.mono hsc))
 have hsd := HBd.out.size
 have hstd := HSd.out.size
 have HGd := Lib.hid (HGc.out.up HSd.out)
 have HAd := Lib.hid (HAc.out.up HSd.out)
 clear hbd
 clear kr0 kr1 zr0 zr1 lt_r
 obtain ⟨kr0, kr1⟩ := Hrd.out.c2
 obtain ⟨zr0, zr1⟩ := Hrd.out.f2
 have lt_r : w.heap.size + 1 + 1 < wd.heap.size := Hrd.out.lt
 go_wp2_with fail
 refine ret_cell2 (t := 60) rfl rfl rfl ?_ Try.underlying60 rfl (by kernel_rfl) rfl ⟨rfl, HBd.out.trans zg⟩
 exact (by have h := Hrd.out; exact zp8)
theorem eqlIn_spans (n : Nat) (a b : Bx) (w : World) :
    (Op.equalIn (n + 3) 76 (.agg #[.int .i64 a.l0, .int .i64 a.h0, .int .i64 a.l1, .int .i64 a.h1, .int .i64 a.l2, .int .i64 a.h2, .int .i64 a.l3, .int .i64 a.h3]) (.agg #[.int .i64 b.l0, .int .i64 b.h0, .int .i64 b.l1, .int .i64 b.h1, .int .i64 b.l2, .int .i64 b.h2, .int .i64 b.l3, .int .i64 b.h3])).run Try.prog w
   = .ok (a.eqb b) w := by
  have hu : Try.prog.underlying 76 = some (.array 4 60) := by kernel_rfl
  have hi : (sizeOf 60).run Try.prog w = .ok 2 w := by kernel_rfl
  have p : ∀ (cs : Array Value) (i : Nat) (w : World), (part 60 cs i).run Try.prog w = .ok (.agg (cs.extract i (i + 2))) w := by
    intro cs i w
    kernel_rfl
  have e : a.eqb b = ((a.l0 == b.l0 && a.h0 == b.h0) && ((a.l1 == b.l1 && a.h1 == b.h1) && ((a.l2 == b.l2 && a.h2 == b.h2) && (a.l3 == b.l3 && a.h3 == b.h3)))) := by
    simp [Bx.eqb, Bool.and_assoc]
  rw [e]
  unfold Op.equalIn
  cases h0 : (a.l0 == b.l0 && a.h0 == b.h0) <;> cases h1 : (a.l1 == b.l1 && a.h1 == b.h1) <;> cases h2 : (a.l2 == b.l2 && a.h2 == b.h2) <;> cases h3 : (a.l3 == b.l3 && a.h3 == b.h3) <;>
    simp [Sem.run_bind, run_underlying hu, hi, p, show List.range' 0 4 = [0, 1, 2, 3] from rfl, eqlIn_span, h0, h1, h2, h3]
theorem run_neq_same (t : TypeId) (xs : Array Value) (w : World) (h : (Op.equalIn 10000 t (.agg xs) (.agg xs)).run Try.prog w = .ok true w) : (binOp .neq t (.agg xs) (.agg xs)).run Try.prog w = .ok (.bool false) w := by
 have he : (binOp .eql t (.agg xs) (.agg xs)).run Try.prog w = .ok (.bool true) w := by rw [run_eql_struct, h]; rfl
 simp only [binOp, Sem.run_bind] at he ⊢
 generalize (Op.equal t (.agg xs) (.agg xs)).run Try.prog w = r at he ⊢
 cases r <;> simp_all [Result.andThen]
theorem neq_spans (a : Bx) (w : World) : (binOp .neq 76 (.agg #[.int .i64 a.l0, .int .i64 a.h0, .int .i64 a.l1, .int .i64 a.h1, .int .i64 a.l2, .int .i64 a.h2, .int .i64 a.l3, .int .i64 a.h3]) (.agg #[.int .i64 a.l0, .int .i64 a.h0, .int .i64 a.l1, .int .i64 a.h1, .int .i64 a.l2, .int .i64 a.h2, .int .i64 a.l3, .int .i64 a.h3])).run Try.prog w = .ok (.bool false) w :=
 run_neq_same _ _ w ((eqlIn_spans 9997 a a w).trans (by rw [Bx.eqb_self]))
theorem zp11 {p : Prop} (h : p := by (repeat first | (with_reducible first | assumption | apply Holds.set4 | apply Holds.putL | ((refine Holds.new' _ _ ?_); (simp; done)) | refine Holds.alloc ?_ _ | refine Holds.drew ?_ | refine Holds.far ?_ (by simp only [ne_eq]; omega) _) | rfl)) : p := h
set_option maxRecDepth 100000 in
set_option maxHeartbeats 4000000 in
theorem Mixture_clash (err miss full empty : Int) (G A : Option Addr) (d c : Nat) (gs : List Gr) (hs : List Hf) (w : World) (hG : GradesAt w G gs) (hgl : gs.length ≤ 1000) (hA : HandsAt w A hs) (hl : hs.length ≤ 1000) (he : bothErr err miss gs full empty hs = 0) (hx : (boundsOf miss (fun _ => true) hs).empty = true) :
  Calls Try.prog 44 #[.agg #[.int .i64 err, .int .i64 miss, .slice G gs.length d], .agg #[.int .i64 full, .int .i64 empty, .slice A hs.length c]] w fun e w' => e = .returned (.tuple #[.agg #[.int .i64 0, .int .i64 0, .int .i64 0, .int .i64 0], .int .i64 7]) ∧ Below w.heap.size w w' := by
 have HA := Lib.hid hA
 have HG := Lib.hid hG
 have HE := Lib.hid he
 have HX := Lib.hid hx
 clear hA hG he hx
 go_enter Try.func44, Try.ntmps44
 go_wp2_with fail
 refine (arriveFitting_clash err miss full empty G A d c gs hs _ (HG.out.up zg) hgl (HA.out.up zg) hl HE.out HX.out).mono ?_
 rintro e w2 ⟨rfl, hb2⟩
 have Hr2 := Lib.hid (Holds.up (zp11 : Holds _ (w.heap.size + 1 + 1) 28 #[.int .i64 0, .int .i64 0, .int .i64 0, .int .i64 0]) hb2)
 have HB2 : Hid (Below w.heap.size w w2) := Lib.hid (Below.trans zg (hb2.mono (by first | omega | (simp; done) | (simp; omega))))
 have lr := Hr2.out.lt
 have lr1 : w.heap.size + 1 + 1 < w2.heap.size + 1 := by omega
 have lr2 : w.heap.size + 1 < w2.heap.size := by omega
 have lr3 : w.heap.size < w2.heap.size := by omega
 obtain ⟨v0, v1, v2, v3⟩ := Hr2.out.c4
 obtain ⟨z0, z1, z2, z3⟩ := Hr2.out.f4
 clear hb2
 go_wp2_with fail
 all_goals exact ret_cell2 (t := 28) rfl rfl rfl (by have h := Hr2.out; exact zp11 : Holds _ (w.heap.size + 1 + 1) 28 #[.int .i64 0, .int .i64 0, .int .i64 0, .int .i64 0]) Try.underlying28 rfl (by kernel_rfl) rfl ⟨rfl, HB2.out.trans zg⟩
end Go.Proofs.Ytifffonoipapgaa
