
import Derived.Test.YtifffonoipapgaaLAA
import Derived.Test.YtifffonoipapgaaBAC
import Derived.Test.YtifffonoipapgaaBBV
import Derived.Test.YtifffonoipapgaaBBZ
set_option linter.unusedSimpArgs false
set_option linter.unusedVariables false
namespace Go.Proofs.Ytifffonoipapgaa
open Go.RowKit
def zIf (W x : Int) : Int := if W = 0 then x else 0
theorem Bounds_tot {E W : Int} {B : Bx} (err miss full emp : Int) (G A : Option Addr) (d c : Nat) (gs : List Gr) (hs : List Hf) (w : World) (hG : GradesAt w G gs) (hgl : gs.length ≤ 1000) (hA : HandsAt w A hs) (hl : hs.length ≤ 1000) (hE : E = bothErr err miss gs full emp hs) (hB : B = boundsOf miss (fun _ => true) hs) (hW : W = boundErr E B) :
  Calls Try.prog 43 #[.agg #[.int .i64 err, .int .i64 miss, .slice G gs.length d], .agg #[.int .i64 full, .int .i64 emp, .slice A hs.length c]] w fun e w' => e = .returned (.tuple #[.agg #[.int .i64 (zIf W B.l0), .int .i64 (zIf W B.h0), .int .i64 (zIf W B.l1), .int .i64 (zIf W B.h1), .int .i64 (zIf W B.l2), .int .i64 (zIf W B.h2), .int .i64 (zIf W B.l3), .int .i64 (zIf W B.h3)], .int .i64 W]) ∧ Below w.heap.size w w' := by
 by_cases h : E = 0
 ·subst h
  cases he : B.empty with
  | true =>
   rw [boundErr_clash he] at hW
   subst hW
   subst hB
   exact Bounds_clash err miss full emp G A d c gs hs w hG hgl hA hl hE.symm he
  | false =>
   rw [boundErr_ok he] at hW
   subst hW
   subst hB
   exact Bounds_ok err miss full emp G A d c gs hs w hG hgl hA hl hE.symm he
 ·rw [boundErr_bad h] at hW
  subst hW
  simp only [zIf, if_neg h]
  rw [hE]
  exact Bounds_err err miss full emp G A d c gs hs w hG hgl hA hl (fun e => h (hE.trans e))
theorem Mixture_tot {E W : Int} {B : Bx} (err miss full emp : Int) (G A : Option Addr) (d c : Nat) (gs : List Gr) (hs : List Hf) (w : World) (hG : GradesAt w G gs) (hgl : gs.length ≤ 1000) (hA : HandsAt w A hs) (hl : hs.length ≤ 1000) (hE : E = bothErr err miss gs full emp hs) (hB : B = boundsOf miss (fun _ => true) hs) (hW : W = boundErr E B) :
  Calls Try.prog 44 #[.agg #[.int .i64 err, .int .i64 miss, .slice G gs.length d], .agg #[.int .i64 full, .int .i64 emp, .slice A hs.length c]] w fun e w' => e = .returned (.tuple #[.agg #[.int .i64 (zIf W (B.l0 + B.t0)), .int .i64 (zIf W (B.l1 + B.t1)), .int .i64 (zIf W (B.l2 + B.t2)), .int .i64 (zIf W (B.l3 + B.t3))], .int .i64 W]) ∧ Below w.heap.size w w' := by
 by_cases h : E = 0
 ·subst h
  cases he : B.empty with
  | true =>
   rw [boundErr_clash he] at hW
   subst hW
   subst hB
   exact Mixture_clash err miss full emp G A d c gs hs w hG hgl hA hl hE.symm he
  | false =>
   rw [boundErr_ok he] at hW
   subst hW
   subst hB
   exact Mixture_ok err miss full emp G A d c gs hs w hG hgl hA hl hE.symm he
 ·rw [boundErr_bad h] at hW
  subst hW
  simp only [zIf, if_neg h]
  rw [hE]
  exact Mixture_err err miss G d gs full emp A c hs w hG hgl hA hl (fun e => h (hE.trans e))
def weighErr (E k : Int) (B : Bx) : Int := if E ≠ 0 then E else if (decide (0 ≤ k) && decide (k ≤ 3)) = false then 1 else if B.empty then 7 else 0
def kLo (B : Bx) (k : Int) : Int := bLo B k.toNat
def kHi (B : Bx) (k : Int) : Int := bHi B k.toNat
theorem bxl_bLo (B : Bx) {k : Nat} (hk : k < 4) : bxl B k = bLo B k ∧ bxh B k = bHi B k := by
 match k, hk with
 | 0, _ | 1, _ | 2, _ | 3, _ => exact ⟨rfl, rfl⟩
theorem Weight_tot {E U NL NH : Int} {B : Bx} (err miss full emp : Int) (G A : Option Addr) (d c : Nat) (gs : List Gr) (hs : List Hf) (k : Int) (w : World) (hG : GradesAt w G gs) (hgl : gs.length ≤ 1000) (hA : HandsAt w A hs) (hl : hs.length ≤ 1000) (hE : E = bothErr err miss gs full emp hs) (hB : B = boundsOf miss (fun _ => true) hs) (hU : U = weighErr E k B) (h1 : NL = netOf E (full - emp - 2 * err)) (h2 : NH = netOf E (full - emp + 2 * err)) :
  Calls Try.prog 45 #[.agg #[.int .i64 err, .int .i64 miss, .slice G gs.length d], .agg #[.int .i64 full, .int .i64 emp, .slice A hs.length c], .int .i64 k] w fun e w' => e = .returned (.tuple #[.agg #[.int .i64 (zIf U (NL * kLo B k / 40)), .int .i64 (zIf U (NH * kHi B k / 40))], .int .i64 U]) ∧ Below w.heap.size w w' := by
 unfold weighErr at hU
 by_cases h : E = 0
 ·subst h
  rw [if_neg (by simp)] at hU
  cases hk : (decide (0 ≤ k) && decide (k ≤ 3)) with
  | false =>
   rw [if_pos hk] at hU
   subst hU
   exact Weight_not err miss G d gs full emp A c hs w hG hgl hA hl k hE.symm hk
  | true =>
   rw [if_neg (by simp [hk])] at hU
   cases he : B.empty with
   | true =>
    rw [if_pos he] at hU
    subst hU
    exact Weight_clash err miss G d gs full emp A c hs w hG hgl hA hl k hE.symm hk (hB ▸ he)
   | false =>
    rw [if_neg (by simp [he])] at hU
    subst hU
    simp only [Bool.and_eq_true, decide_eq_true_eq] at hk
    obtain ⟨n, rfl⟩ : ∃ n : Nat, k = (n : Int) := ⟨k.toNat, by omega⟩
    have hn : n < 4 := by omega
    obtain ⟨e1, e2⟩ := bxl_bLo B hn
    have := weight_at n hn err miss full emp G A d c gs hs w hG hgl hA hl hE.symm B hB.symm he NL NH h1 h2
    rw [e1, e2] at this
    exact this
 ·rw [if_pos h] at hU
  subst hU
  simp only [zIf, if_neg h]
  rw [hE]
  exact Weight_err err miss G d gs full emp A c hs w hG hgl hA hl k (fun e => h (hE.trans e))
theorem neq_span (a b : Int) (w : World) : (binOp .neq 60 (.agg #[.int .i64 a, .int .i64 b]) (.agg #[.int .i64 a, .int .i64 b])).run Try.prog w = .ok (.bool false) w :=
 run_neq_same _ _ w ((eqlIn_span 9998 a b a b w).trans (by simp))
theorem eql_four (w : World) : (binOp .eql 28 (.agg #[.int .i64 0, .int .i64 0, .int .i64 0, .int .i64 0]) (.agg #[.int .i64 0, .int .i64 0, .int .i64 0, .int .i64 0])).run Try.prog w = .ok (.bool true) w := by kernel_rfl
theorem mix_good {miss : Int} {hs : List Hf} (hn : ∀ x ∈ hs, x.enough = true) (he : (boundsOf miss (fun _ => true) hs).empty = false) : ∃ m0 m1 m2 m3 : Int, (boundsOf miss (fun _ => true) hs).l0 + (boundsOf miss (fun _ => true) hs).t0 = m0 ∧ (boundsOf miss (fun _ => true) hs).l1 + (boundsOf miss (fun _ => true) hs).t1 = m1 ∧ (boundsOf miss (fun _ => true) hs).l2 + (boundsOf miss (fun _ => true) hs).t2 = m2 ∧ (boundsOf miss (fun _ => true) hs).l3 + (boundsOf miss (fun _ => true) hs).t3 = m3 ∧ mixErr m0 m1 m2 m3 = 0 ∧ hs.all (fitH miss m0 m1 m2 m3) = true := by
 obtain ⟨h1, h2⟩ := (bounds_tight he).mix
 have hm := box_mix (bounds_ok miss _ hs) h2 h1
 exact ⟨_, _, _, _, rfl, rfl, rfl, rfl, mix_err hm, by rw [← holds_all hn hm, holds_has]; exact h2⟩
def boxIf (W : Int) (B : Bx) : Bx := if W = 0 then B else Bx.zero
theorem Bounds_z {E W : Int} {B Z : Bx} (err miss full emp : Int) (G A : Option Addr) (d c : Nat) (gs : List Gr) (hs : List Hf) (w : World) (hG : GradesAt w G gs) (hgl : gs.length ≤ 1000) (hA : HandsAt w A hs) (hl : hs.length ≤ 1000) (hE : E = bothErr err miss gs full emp hs) (hB : B = boundsOf miss (fun _ => true) hs) (hW : W = boundErr E B) (hZ : Z = boxIf W B) :
  Calls Try.prog 43 #[.agg #[.int .i64 err, .int .i64 miss, .slice G gs.length d], .agg #[.int .i64 full, .int .i64 emp, .slice A hs.length c]] w fun e w' => e = .returned (.tuple #[.agg #[.int .i64 Z.l0, .int .i64 Z.h0, .int .i64 Z.l1, .int .i64 Z.h1, .int .i64 Z.l2, .int .i64 Z.h2, .int .i64 Z.l3, .int .i64 Z.h3], .int .i64 W]) ∧ Below w.heap.size w w' := by
 have := Bounds_tot err miss full emp G A d c gs hs w hG hgl hA hl hE hB hW
 unfold boxIf at hZ
 by_cases h : W = 0
 ·rw [if_pos h] at hZ; subst hZ; simp only [zIf, if_pos h] at this; exact this
 ·rw [if_neg h] at hZ; subst hZ; simp only [zIf, if_neg h] at this; exact this
theorem Mixture_m {E W M0 M1 M2 M3 : Int} {B : Bx} (err miss full emp : Int) (G A : Option Addr) (d c : Nat) (gs : List Gr) (hs : List Hf) (w : World) (hG : GradesAt w G gs) (hgl : gs.length ≤ 1000) (hA : HandsAt w A hs) (hl : hs.length ≤ 1000) (hE : E = bothErr err miss gs full emp hs) (hB : B = boundsOf miss (fun _ => true) hs) (hW : W = boundErr E B) (h0 : M0 = zIf W (B.l0 + B.t0)) (h1 : M1 = zIf W (B.l1 + B.t1)) (h2 : M2 = zIf W (B.l2 + B.t2)) (h3 : M3 = zIf W (B.l3 + B.t3)) :
  Calls Try.prog 44 #[.agg #[.int .i64 err, .int .i64 miss, .slice G gs.length d], .agg #[.int .i64 full, .int .i64 emp, .slice A hs.length c]] w fun e w' => e = .returned (.tuple #[.agg #[.int .i64 M0, .int .i64 M1, .int .i64 M2, .int .i64 M3], .int .i64 W]) ∧ Below w.heap.size w w' := by
 rw [h0, h1, h2, h3]; exact Mixture_tot err miss full emp G A d c gs hs w hG hgl hA hl hE hB hW
theorem Weight_w {E U NL NH WL WH : Int} {B : Bx} (err miss full emp : Int) (G A : Option Addr) (d c : Nat) (gs : List Gr) (hs : List Hf) (k : Int) (w : World) (hG : GradesAt w G gs) (hgl : gs.length ≤ 1000) (hA : HandsAt w A hs) (hl : hs.length ≤ 1000) (hE : E = bothErr err miss gs full emp hs) (hB : B = boundsOf miss (fun _ => true) hs) (hU : U = weighErr E k B) (h1 : NL = netOf E (full - emp - 2 * err)) (h2 : NH = netOf E (full - emp + 2 * err)) (h3 : WL = zIf U (NL * kLo B k / 40)) (h4 : WH = zIf U (NH * kHi B k / 40)) :
  Calls Try.prog 45 #[.agg #[.int .i64 err, .int .i64 miss, .slice G gs.length d], .agg #[.int .i64 full, .int .i64 emp, .slice A hs.length c], .int .i64 k] w fun e w' => e = .returned (.tuple #[.agg #[.int .i64 WL, .int .i64 WH], .int .i64 U]) ∧ Below w.heap.size w w' := by
 rw [h3, h4]; exact Weight_tot err miss full emp G A d c gs hs k w hG hgl hA hl hE hB hU h1 h2
theorem refAll_zero (err miss : Int) (G : Option Addr) (gl d : Nat) (full emp : Int) (A : Option Addr) (c : Nat) (hs : List Hf) (i0 : 0 ≤ miss) (i1 : miss ≤ 20) (w : World) (hA : HandsAt w A hs) (h6 : hs.length ≤ 6) (ht : ∀ x ∈ hs, x.taken = true) :
  Calls Try.prog 41 #[.agg #[.int .i64 err, .int .i64 miss, .slice G gl d], .agg #[.int .i64 full, .int .i64 emp, .slice A hs.length c]] w fun e w' => ∃ (O : Nat) (Aq : Option Addr) (qq : Nat), e = .returned (.slice (some ⟨O, 0, none⟩) 64 64) ∧ w'.cell? ⟨O, 0, none⟩ = some (.slice Aq (fitL miss hs).length qq) ∧ MixAt w' Aq (fitL miss hs) ∧ Below w.heap.size w w' :=
 (refAll_any err miss G gl d full emp A c hs i0 i1 w hA h6 ht).mono fun e w' ⟨f, he, ht, hb⟩ => by
  obtain ⟨Aq, qq, hk, hm⟩ := tab_zero ht
  exact ⟨_, Aq, qq, he, hk, hm, hb⟩
set_option maxRecDepth 100000 in
theorem open_four {H : Type} {enc : TypeId × Value → H} {w : World} {base : Nat} {spare : Nat → Bool} {held : Bool} {r : Reach} {b0 : Nat} {v : Value} {d : DataW H} {p : List MemPlace} (hv : Value.okWide Try.prog w r b0 28 v) (h : DataW.Trod enc Try.prog w base spare held 28 v d p) :
  ∃ m0 m1 m2 m3 : Int, v = .agg #[.int .i64 m0, .int .i64 m1, .int .i64 m2, .int .i64 m3] := by
 simp only [Value.okWide, Try.underlying28] at hv
 obtain ⟨cs, rfl, hsz, _⟩ := hv
 rw [cells_four] at hsz
 obtain ⟨fuel, hf⟩ := h
 obtain ⟨l⟩ := cs
 have hl : l.length = 4 := by simpa using hsz
 obtain ⟨c0, c1, c2, c3, rfl⟩ := list4 hl
 have g1 : DataW.trod enc Try.prog w base spare held fuel 28 [c0, c1, c2, c3] = some (d, p) := hf
 obtain ⟨zs, m, _, _, _, hzl, hz⟩ := DataW.trod_array Try.underlying28 g1
 obtain ⟨z0, z1, z2, z3, rfl⟩ := list4 hzl
 have k0 := hz 0 (by decide)
 have k1 := hz 1 (by decide)
 have k2 := hz 2 (by decide)
 have k3 := hz 3 (by decide)
 simp [cells_int] at k0 k1 k2 k3
 obtain ⟨a0, rfl⟩ := trod_one k0
 obtain ⟨a1, rfl⟩ := trod_one k1
 obtain ⟨a2, rfl⟩ := trod_one k2
 obtain ⟨a3, rfl⟩ := trod_one k3
 exact ⟨a0, a1, a2, a3, rfl⟩
end Go.Proofs.Ytifffonoipapgaa
