
import Derived.Test.YtdpgfaikmahmpaaGAA
import Derived.Test.YtdpgfaikmahmpaaGAC
import Derived.Test.YtdpgfaikmahmpaaGAE
import Derived.Test.YtdpgfaikmahmpaaGAU
import Derived.Test.YtdpgfaikmahmpaaGAZ
import Derived.Test.YtdpgfaikmahmpaaGBH
import Derived.Test.YtdpgfaikmahmpaaGBK
set_option linter.unusedSimpArgs false
set_option linter.unusedVariables false
namespace Go.Proofs.Ytdpgfaikmahmpaa
open Go.RowKit
theorem BytesAt.grown {w w' : World} {A A' : Option Addr} {n n' c S : Nat} {x y : Int} (h : BytesAt w A n) (hS : Holds w S 172 #[.slice A' n' c, .int .i64 x, .int .u32 y]) (hg : w.grownBy w' (some S)) : BytesAt w' A n := fun hn => by
 obtain ⟨B, o, e, hc⟩ := h hn
 refine ⟨B, o, e, fun k hk => ?_⟩
 obtain ⟨b, hb⟩ := hc k hk
 refine ⟨b, hg.cell hb (fun he => ?_)⟩
 have hB : B = S := by simpa using he
 subst hB
 rw [hS.cell] at hb
 generalize o + k = q at hb
 match q, hb with
 | 0, hb => simp at hb
 | 1, hb => simp at hb
 | 2, hb => simp at hb
 | q + 3, hb => simp at hb
def MixedPost (w : World) (S : Nat) (A : Option Addr) (n c tk : Nat) (e : Ending) (w' : World) : Prop :=
 ∃ (m0 m1 m2 m3 : Int) (tk1 : Nat) (m : Int), e = .returned (.agg #[.int .i64 m0, .int .i64 m1, .int .i64 m2, .int .i64 m3]) ∧ Mix4 m0 m1 m2 m3 ∧ tk1 ≤ tk + 8 ∧ Holds w' S 172 #[.slice A n c, .int .i64 ((tk1 : Nat) : Int), .int .u32 m] ∧ w.grownBy w' (some S)
def MixRel (w : World) (S : Nat) (A : Option Addr) (n c tk : Nat) (v4 v10 : Value) (wr : World) : Prop :=
 ∃ (i left a1 a2 a3 m1 : Int) (tk1 : Nat), v4 = .int .i64 left ∧ v10 = .int .i64 i ∧ 0 ≤ i ∧ i ≤ 3 ∧ ((tk1 : Int) = (tk : Int) + 2 * i ∧ 0 ≤ left ∧ 0 ≤ a1 ∧ 0 ≤ a2 ∧ 0 ≤ a3 ∧ left + a1 + a2 + a3 = 40) ∧ (i ≤ 2 → a1 = 0) ∧ (i ≤ 1 → a2 = 0) ∧ (i ≤ 0 → a3 = 0) ∧
  Holds wr S 172 #[.slice A n c, .int .i64 ((tk1 : Nat) : Int), .int .u32 m1] ∧ Holds wr (w.heap.size) 28 #[.int .i64 0, .int .i64 0, .int .i64 0, .int .i64 0] ∧ Holds wr (w.heap.size + 1) 28 #[.int .i64 0, .int .i64 a1, .int .i64 a2, .int .i64 a3] ∧ Holds wr (w.heap.size + 1 + 1) 3 #[.int .i64 3, .int .i64 2, .int .i64 1] ∧ w.grownBy wr (some S)
theorem grow_low {w w' w'' : World} {n S : Nat} (h : w.grownBy w' (some S)) (hb : Below n w' w'') (hn : w.heap.size ≤ n) : w.grownBy w'' (some S) :=
 ⟨hb.os.trans h.os, hb.tape.trans h.tape, hb.output.trans h.output, Nat.le_trans h.size hb.size, fun i hi hne => (hb.block i (by omega)).trans (h.block i hi hne)⟩
theorem grow_far {w w' : World} {S : Nat} (h : w.grownBy w' (some S)) {p : Addr} (hp : w.heap.size ≤ p.block) (u : Value) : w.grownBy (w'.setCell p u) (some S) :=
 ⟨h.os, h.tape, h.output, by simpa [World.setCell] using h.size, fun k hk hne => (Below.heap_setCell w' p u k (by omega)).trans (h.block k hk hne)⟩
set_option maxRecDepth 100000 in
set_option maxHeartbeats 4000000 in
theorem Mixed_any (S : Nat) (A : Option Addr) (n c tk : Nat) (m : Int) (w : World) (hS : Holds w S 172 #[.slice A n c, .int .i64 ((tk : Nat) : Int), .int .u32 m]) (hA : BytesAt w A n) (hn : n ≤ 9223372036854775807) (ht : tk ≤ 900000) :
  Calls Try.prog 73 #[.pointer (some ⟨S, 0, none⟩)] w (MixedPost w S A n c tk) := by
 have hSl := hS.lt
 have HS0 := Lib.hid hS
 have HA0 := Lib.hid hA
 clear hS hA
 go_enter Try.func73, Try.ntmps73
 go_wp2_with fail
 go_loopw [4, 10] (fun v4 v10 wr => MixRel w S A n c tk v4 v10 wr) (fun _ v10 _ => 3 - (intOf v10).toNat)
 case atStart =>
  refine ⟨0, 40, 0, 0, 0, m, tk, rfl, rfl, by decide, by decide, ⟨by omega, by decide, by decide, by decide, by decide, by decide⟩, fun _ => rfl, fun _ => rfl, fun _ => rfl, HS0.out.up zg, ?_, ?_, ?_, only_below S zg⟩
  ·exact zp0
  ·exact zp0
  ·exact zp0
 case round =>
  obtain ⟨i, left, a1, a2, a3, m1, tk1, rfl, rfl, hi0, hi3, ⟨htk, p0, p1, p2, p3, hsum⟩, z1, z2, z3, hS1, h0, h1, h2, hg⟩ := hrel
  have HSu := Lib.hid hS1
  have HGu := Lib.hid hg
  have HAu := Lib.hid (HA0.out.grown HS0.out hg)
  have Hb0u := Lib.hid h0
  have Hb1u := Lib.hid h1
  have Hb2u := Lib.hid h2
  clear hS1 hg h0 h1 h2
  rcases (by omega : i = 0 ∨ i = 1 ∨ i = 2 ∨ i = 3) with rfl | rfl | rfl | rfl
  ·obtain rfl := z1 (by decide)
   obtain rfl := z2 (by decide)
   obtain rfl := z3 (by decide)
   clear z1 z2 z3
   obtain ⟨b00u, b01u, b02u, b03u⟩ := Hb0u.out.c4
   obtain ⟨zb00u, zb01u, zb02u, zb03u⟩ := Hb0u.out.f4
   have lb0u : w.heap.size < wr.heap.size := Hb0u.out.lt
   obtain ⟨b10u, b11u, b12u, b13u⟩ := Hb1u.out.c4
   obtain ⟨zb10u, zb11u, zb12u, zb13u⟩ := Hb1u.out.f4
   have lb1u : w.heap.size + 1 < wr.heap.size := Hb1u.out.lt
   obtain ⟨b20u, b21u, b22u⟩ := Hb2u.out.c3
   obtain ⟨zb20u, zb21u, zb22u⟩ := Hb2u.out.f3
   have lb2u : w.heap.size + 1 + 1 < wr.heap.size := Hb2u.out.lt
   go_wp2_with (first
    | ((go_at_call 74); (with_reducible show Calls _ _ #[_, .int .i64 5] _ _); (refine (Below_any S A n c (tk1) m1 5 _ HSu.out HAu.out hn (by omega) (by decide) (by decide)).mono ?_); (rintro e w2 ⟨rv, mv, rfl, rv0, rv1, rv2, hsv, gv⟩); (have hrv : rv ≤ 4 := (by omega)); (have HSv := Lib.hid hsv); (have HGv := Lib.hid (HGu.out.trans gv)); (have HAv := Lib.hid (HAu.out.grown HSu.out gv)); (have Hb0v := Lib.hid (Hb0u.out.grown gv (by omega : w.heap.size ≠ S))); (have Hb1v := Lib.hid (Hb1u.out.grown gv (by omega : w.heap.size + 1 ≠ S))); (have Hb2v := Lib.hid (Hb2u.out.grown gv (by omega : w.heap.size + 1 + 1 ≠ S))); (clear b00u b01u b02u b03u zb00u zb01u zb02u zb03u lb0u b10u b11u b12u b13u zb10u zb11u zb12u zb13u lb1u b20u b21u b22u zb20u zb21u zb22u lb2u hsv gv); (obtain ⟨b00v, b01v, b02v, b03v⟩ := Hb0v.out.c4); (obtain ⟨zb00v, zb01v, zb02v, zb03v⟩ := Hb0v.out.f4); (have lb0v : w.heap.size < w2.heap.size := Hb0v.out.lt); (obtain ⟨b10v, b11v, b12v, b13v⟩ := Hb1v.out.c4); (obtain ⟨zb10v, zb11v, zb12v, zb13v⟩ := Hb1v.out.f4); (have lb1v : w.heap.size + 1 < w2.heap.size := Hb1v.out.lt); (obtain ⟨b20v, b21v, b22v⟩ := Hb2v.out.c3); (obtain ⟨zb20v, zb21v, zb22v⟩ := Hb2v.out.f3); (have lb2v : w.heap.size + 1 + 1 < w2.heap.size := Hb2v.out.lt))
    | ((go_at_call 74); (with_reducible show Calls _ _ #[_, .int .i64 4] _ _); (refine (Below_any S A n c (tk1 + 1) mv 4 _ HSv.out HAv.out hn (by omega) (by decide) (by decide)).mono ?_); (rintro e w3 ⟨rw, mw, rfl, rw0, rw1, rw2, hsw, gw⟩); (have hrw : rw ≤ 3 := (by omega)); (have HSw := Lib.hid hsw); (have HGw := Lib.hid (HGv.out.trans gw)); (have HAw := Lib.hid (HAv.out.grown HSv.out gw)); (have Hb0w := Lib.hid (Hb0v.out.grown gw (by omega : w.heap.size ≠ S))); (have Hb1w := Lib.hid (Hb1v.out.grown gw (by omega : w.heap.size + 1 ≠ S))); (have Hb2w := Lib.hid (Hb2v.out.grown gw (by omega : w.heap.size + 1 + 1 ≠ S))); (clear b00v b01v b02v b03v zb00v zb01v zb02v zb03v lb0v b10v b11v b12v b13v zb10v zb11v zb12v zb13v lb1v b20v b21v b22v zb20v zb21v zb22v lb2v hsw gw); (obtain ⟨b00w, b01w, b02w, b03w⟩ := Hb0w.out.c4); (obtain ⟨zb00w, zb01w, zb02w, zb03w⟩ := Hb0w.out.f4); (have lb0w : w.heap.size < w3.heap.size := Hb0w.out.lt); (obtain ⟨b10w, b11w, b12w, b13w⟩ := Hb1w.out.c4); (obtain ⟨zb10w, zb11w, zb12w, zb13w⟩ := Hb1w.out.f4); (have lb1w : w.heap.size + 1 < w3.heap.size := Hb1w.out.lt); (obtain ⟨b20w, b21w, b22w⟩ := Hb2w.out.c3); (obtain ⟨zb20w, zb21w, zb22w⟩ := Hb2w.out.f3); (have lb2w : w.heap.size + 1 + 1 < w3.heap.size := Hb2w.out.lt); (have hp0 : 0 ≤ rv * rw := Int.mul_nonneg rv0 rw0); (have hp1 : rv * rw ≤ 12 := Int.le_trans (Int.mul_le_mul hrv hrw rw0 (by decide)) (by decide))))
   go_roundw
   case rel =>
    refine ⟨1, left - rv * rw, 0, 0, rv * rw, mw, tk1 + 1 + 1, rfl, rfl, by decide, by decide, ⟨by omega, (by first | omega | (split <;> omega)), (by first | omega | (split <;> omega)), (by first | omega | (split <;> omega)), (by first | omega | (split <;> omega)), (by first | omega | (split <;> omega))⟩, by omega, by omega, by omega, ?_, ?_, ?_, ?_, ?_⟩
    ·exact Holds.far HSw.out (by simp only [ne_eq]; omega) _
    ·have h := Hb0w.out; exact zp0
    ·have h := Hb1w.out; exact zp0
    ·have h := Hb2w.out; exact zp0
    ·exact grow_far HGw.out (by simp) _
   case measure => simp [intOf]
  ·obtain rfl := z1 (by decide)
   obtain rfl := z2 (by decide)
   clear z1 z2 z3
   obtain ⟨b00u, b01u, b02u, b03u⟩ := Hb0u.out.c4
   obtain ⟨zb00u, zb01u, zb02u, zb03u⟩ := Hb0u.out.f4
   have lb0u : w.heap.size < wr.heap.size := Hb0u.out.lt
   obtain ⟨b10u, b11u, b12u, b13u⟩ := Hb1u.out.c4
   obtain ⟨zb10u, zb11u, zb12u, zb13u⟩ := Hb1u.out.f4
   have lb1u : w.heap.size + 1 < wr.heap.size := Hb1u.out.lt
   obtain ⟨b20u, b21u, b22u⟩ := Hb2u.out.c3
   obtain ⟨zb20u, zb21u, zb22u⟩ := Hb2u.out.f3
   have lb2u : w.heap.size + 1 + 1 < wr.heap.size := Hb2u.out.lt
   go_wp2_with (first
    | ((go_at_call 74); (with_reducible show Calls _ _ #[_, .int .i64 5] _ _); (refine (Below_any S A n c (tk1) m1 5 _ HSu.out HAu.out hn (by omega) (by decide) (by decide)).mono ?_); (rintro e w2 ⟨rv, mv, rfl, rv0, rv1, rv2, hsv, gv⟩); (have hrv : rv ≤ 4 := (by omega)); (have HSv := Lib.hid hsv); (have HGv := Lib.hid (HGu.out.trans gv)); (have HAv := Lib.hid (HAu.out.grown HSu.out gv)); (have Hb0v := Lib.hid (Hb0u.out.grown gv (by omega : w.heap.size ≠ S))); (have Hb1v := Lib.hid (Hb1u.out.grown gv (by omega : w.heap.size + 1 ≠ S))); (have Hb2v := Lib.hid (Hb2u.out.grown gv (by omega : w.heap.size + 1 + 1 ≠ S))); (clear b00u b01u b02u b03u zb00u zb01u zb02u zb03u lb0u b10u b11u b12u b13u zb10u zb11u zb12u zb13u lb1u b20u b21u b22u zb20u zb21u zb22u lb2u hsv gv); (obtain ⟨b00v, b01v, b02v, b03v⟩ := Hb0v.out.c4); (obtain ⟨zb00v, zb01v, zb02v, zb03v⟩ := Hb0v.out.f4); (have lb0v : w.heap.size < w2.heap.size := Hb0v.out.lt); (obtain ⟨b10v, b11v, b12v, b13v⟩ := Hb1v.out.c4); (obtain ⟨zb10v, zb11v, zb12v, zb13v⟩ := Hb1v.out.f4); (have lb1v : w.heap.size + 1 < w2.heap.size := Hb1v.out.lt); (obtain ⟨b20v, b21v, b22v⟩ := Hb2v.out.c3); (obtain ⟨zb20v, zb21v, zb22v⟩ := Hb2v.out.f3); (have lb2v : w.heap.size + 1 + 1 < w2.heap.size := Hb2v.out.lt))
    | ((go_at_call 74); (with_reducible show Calls _ _ #[_, .int .i64 4] _ _); (refine (Below_any S A n c (tk1 + 1) mv 4 _ HSv.out HAv.out hn (by omega) (by decide) (by decide)).mono ?_); (rintro e w3 ⟨rw, mw, rfl, rw0, rw1, rw2, hsw, gw⟩); (have hrw : rw ≤ 3 := (by omega)); (have HSw := Lib.hid hsw); (have HGw := Lib.hid (HGv.out.trans gw)); (have HAw := Lib.hid (HAv.out.grown HSv.out gw)); (have Hb0w := Lib.hid (Hb0v.out.grown gw (by omega : w.heap.size ≠ S))); (have Hb1w := Lib.hid (Hb1v.out.grown gw (by omega : w.heap.size + 1 ≠ S))); (have Hb2w := Lib.hid (Hb2v.out.grown gw (by omega : w.heap.size + 1 + 1 ≠ S))); (clear b00v b01v b02v b03v zb00v zb01v zb02v zb03v lb0v b10v b11v b12v b13v zb10v zb11v zb12v zb13v lb1v b20v b21v b22v zb20v zb21v zb22v lb2v hsw gw); (obtain ⟨b00w, b01w, b02w, b03w⟩ := Hb0w.out.c4); (obtain ⟨zb00w, zb01w, zb02w, zb03w⟩ := Hb0w.out.f4); (have lb0w : w.heap.size < w3.heap.size := Hb0w.out.lt); (obtain ⟨b10w, b11w, b12w, b13w⟩ := Hb1w.out.c4); (obtain ⟨zb10w, zb11w, zb12w, zb13w⟩ := Hb1w.out.f4); (have lb1w : w.heap.size + 1 < w3.heap.size := Hb1w.out.lt); (obtain ⟨b20w, b21w, b22w⟩ := Hb2w.out.c3); (obtain ⟨zb20w, zb21w, zb22w⟩ := Hb2w.out.f3); (have lb2w : w.heap.size + 1 + 1 < w3.heap.size := Hb2w.out.lt); (have hp0 : 0 ≤ rv * rw := Int.mul_nonneg rv0 rw0); (have hp1 : rv * rw ≤ 12 := Int.le_trans (Int.mul_le_mul hrv hrw rw0 (by decide)) (by decide))))
   go_roundw
   case rel =>
    refine ⟨2, left - (if rv * rw < left then rv * rw else left), 0, (if rv * rw < left then rv * rw else left), a3, mw, tk1 + 1 + 1, rfl, rfl, by decide, by decide, ⟨by omega, (by first | omega | (split <;> omega)), (by first | omega | (split <;> omega)), (by first | omega | (split <;> omega)), (by first | omega | (split <;> omega)), (by first | omega | (split <;> omega))⟩, by omega, by omega, by omega, ?_, ?_, ?_, ?_, ?_⟩
    ·exact Holds.far HSw.out (by simp only [ne_eq]; omega) _
    ·have h := Hb0w.out; exact zp0
    ·have h := Hb1w.out; exact zp0
    ·have h := Hb2w.out; exact zp0
    ·exact grow_far HGw.out (by simp) _
   case measure => simp [intOf]
  ·obtain rfl := z1 (by decide)
   clear z1 z2 z3
   obtain ⟨b00u, b01u, b02u, b03u⟩ := Hb0u.out.c4
   obtain ⟨zb00u, zb01u, zb02u, zb03u⟩ := Hb0u.out.f4
   have lb0u : w.heap.size < wr.heap.size := Hb0u.out.lt
   obtain ⟨b10u, b11u, b12u, b13u⟩ := Hb1u.out.c4
   obtain ⟨zb10u, zb11u, zb12u, zb13u⟩ := Hb1u.out.f4
   have lb1u : w.heap.size + 1 < wr.heap.size := Hb1u.out.lt
   obtain ⟨b20u, b21u, b22u⟩ := Hb2u.out.c3
   obtain ⟨zb20u, zb21u, zb22u⟩ := Hb2u.out.f3
   have lb2u : w.heap.size + 1 + 1 < wr.heap.size := Hb2u.out.lt
   go_wp2_with (first
    | ((go_at_call 74); (with_reducible show Calls _ _ #[_, .int .i64 5] _ _); (refine (Below_any S A n c (tk1) m1 5 _ HSu.out HAu.out hn (by omega) (by decide) (by decide)).mono ?_); (rintro e w2 ⟨rv, mv, rfl, rv0, rv1, rv2, hsv, gv⟩); (have hrv : rv ≤ 4 := (by omega)); (have HSv := Lib.hid hsv); (have HGv := Lib.hid (HGu.out.trans gv)); (have HAv := Lib.hid (HAu.out.grown HSu.out gv)); (have Hb0v := Lib.hid (Hb0u.out.grown gv (by omega : w.heap.size ≠ S))); (have Hb1v := Lib.hid (Hb1u.out.grown gv (by omega : w.heap.size + 1 ≠ S))); (have Hb2v := Lib.hid (Hb2u.out.grown gv (by omega : w.heap.size + 1 + 1 ≠ S))); (clear b00u b01u b02u b03u zb00u zb01u zb02u zb03u lb0u b10u b11u b12u b13u zb10u zb11u zb12u zb13u lb1u b20u b21u b22u zb20u zb21u zb22u lb2u hsv gv); (obtain ⟨b00v, b01v, b02v, b03v⟩ := Hb0v.out.c4); (obtain ⟨zb00v, zb01v, zb02v, zb03v⟩ := Hb0v.out.f4); (have lb0v : w.heap.size < w2.heap.size := Hb0v.out.lt); (obtain ⟨b10v, b11v, b12v, b13v⟩ := Hb1v.out.c4); (obtain ⟨zb10v, zb11v, zb12v, zb13v⟩ := Hb1v.out.f4); (have lb1v : w.heap.size + 1 < w2.heap.size := Hb1v.out.lt); (obtain ⟨b20v, b21v, b22v⟩ := Hb2v.out.c3); (obtain ⟨zb20v, zb21v, zb22v⟩ := Hb2v.out.f3); (have lb2v : w.heap.size + 1 + 1 < w2.heap.size := Hb2v.out.lt))
    | ((go_at_call 74); (with_reducible show Calls _ _ #[_, .int .i64 4] _ _); (refine (Below_any S A n c (tk1 + 1) mv 4 _ HSv.out HAv.out hn (by omega) (by decide) (by decide)).mono ?_); (rintro e w3 ⟨rw, mw, rfl, rw0, rw1, rw2, hsw, gw⟩); (have hrw : rw ≤ 3 := (by omega)); (have HSw := Lib.hid hsw); (have HGw := Lib.hid (HGv.out.trans gw)); (have HAw := Lib.hid (HAv.out.grown HSv.out gw)); (have Hb0w := Lib.hid (Hb0v.out.grown gw (by omega : w.heap.size ≠ S))); (have Hb1w := Lib.hid (Hb1v.out.grown gw (by omega : w.heap.size + 1 ≠ S))); (have Hb2w := Lib.hid (Hb2v.out.grown gw (by omega : w.heap.size + 1 + 1 ≠ S))); (clear b00v b01v b02v b03v zb00v zb01v zb02v zb03v lb0v b10v b11v b12v b13v zb10v zb11v zb12v zb13v lb1v b20v b21v b22v zb20v zb21v zb22v lb2v hsw gw); (obtain ⟨b00w, b01w, b02w, b03w⟩ := Hb0w.out.c4); (obtain ⟨zb00w, zb01w, zb02w, zb03w⟩ := Hb0w.out.f4); (have lb0w : w.heap.size < w3.heap.size := Hb0w.out.lt); (obtain ⟨b10w, b11w, b12w, b13w⟩ := Hb1w.out.c4); (obtain ⟨zb10w, zb11w, zb12w, zb13w⟩ := Hb1w.out.f4); (have lb1w : w.heap.size + 1 < w3.heap.size := Hb1w.out.lt); (obtain ⟨b20w, b21w, b22w⟩ := Hb2w.out.c3); (obtain ⟨zb20w, zb21w, zb22w⟩ := Hb2w.out.f3); (have lb2w : w.heap.size + 1 + 1 < w3.heap.size := Hb2w.out.lt); (have hp0 : 0 ≤ rv * rw := Int.mul_nonneg rv0 rw0); (have hp1 : rv * rw ≤ 12 := Int.le_trans (Int.mul_le_mul hrv hrw rw0 (by decide)) (by decide))))
   go_roundw
   case rel =>
    refine ⟨3, left - (if rv * rw < left then rv * rw else left), (if rv * rw < left then rv * rw else left), a2, a3, mw, tk1 + 1 + 1, rfl, rfl, by decide, by decide, ⟨by omega, (by first | omega | (split <;> omega)), (by first | omega | (split <;> omega)), (by first | omega | (split <;> omega)), (by first | omega | (split <;> omega)), (by first | omega | (split <;> omega))⟩, by omega, by omega, by omega, ?_, ?_, ?_, ?_, ?_⟩
    ·exact Holds.far HSw.out (by simp only [ne_eq]; omega) _
    ·have h := Hb0w.out; exact zp0
    ·have h := Hb1w.out; exact zp0
    ·have h := Hb2w.out; exact zp0
    ·exact grow_far HGw.out (by simp) _
   case measure => simp [intOf]
  ·clear z1 z2 z3
   obtain ⟨b00u, b01u, b02u, b03u⟩ := Hb0u.out.c4
   obtain ⟨zb00u, zb01u, zb02u, zb03u⟩ := Hb0u.out.f4
   have lb0u : w.heap.size < wr.heap.size := Hb0u.out.lt
   obtain ⟨b10u, b11u, b12u, b13u⟩ := Hb1u.out.c4
   obtain ⟨zb10u, zb11u, zb12u, zb13u⟩ := Hb1u.out.f4
   have lb1u : w.heap.size + 1 < wr.heap.size := Hb1u.out.lt
   obtain ⟨b20u, b21u, b22u⟩ := Hb2u.out.c3
   obtain ⟨zb20u, zb21u, zb22u⟩ := Hb2u.out.f3
   have lb2u : w.heap.size + 1 + 1 < wr.heap.size := Hb2u.out.lt
   go_wp2_with fail
   have HGx := Lib.hid (grow_far HGu.out (p := ⟨w.heap.size + 1, 0, none⟩) (by simp) (.int .i64 left))
   refine (Rare_any S A n c tk1 m1 4 _ (HSu.out.far (by simp only [ne_eq]; omega) _) (HA0.out.grown HS0.out HGx.out) hn (by omega) (by decide) (by decide)).mono ?_
   rintro e w2 ⟨b, m2, rfl, hs2, g2⟩
   have hS0 := HGx.out.size
   have HSx := Lib.hid hs2
   have Hb0x := Lib.hid ((Hb0u.out.far (p := ⟨w.heap.size + 1, 0, none⟩) (by simp) (.int .i64 left)).grown g2 (by omega))
   have Hb1x : Hid (Holds w2 (w.heap.size + 1) 28 #[.int .i64 left, .int .i64 a1, .int .i64 a2, .int .i64 a3]) := Lib.hid ((Holds.putL (l := [.int .i64 0, .int .i64 a1, .int .i64 a2, .int .i64 a3]) Hb1u.out rfl).grown g2 (by omega))
   replace HGx := Lib.hid (HGx.out.trans g2)
   clear b00u b01u b02u b03u zb00u zb01u zb02u zb03u lb0u b10u b11u b12u b13u zb10u zb11u zb12u zb13u lb1u b20u b21u b22u zb20u zb21u zb22u lb2u hs2 g2
   have hx0 := Hb0x.out.lt
   have hx1 := Hb1x.out.lt
   cases b with
   | false =>
    obtain ⟨q0, q1, q2, q3⟩ := Hb1x.out.c4
    obtain ⟨e0, e1, e2, e3⟩ := Hb0x.out.c4
    obtain ⟨y0, y1, y2, y3⟩ := Hb0x.out.f4
    go_wp2_with fail
    have h := Hb0x.out
    exact ret_cell rfl rfl (zp0 : Holds _ (w.heap.size) 28 #[.int .i64 left, .int .i64 a1, .int .i64 a2, .int .i64 a3]) Try.underlying28 rfl (by kernel_rfl) rfl ⟨left, a1, a2, a3, _, _, rfl, ⟨by omega, by omega, by omega, by omega, by omega⟩, by omega, ((((HSx.out.far (by simp only [ne_eq]; omega) _).far (by simp only [ne_eq]; omega) _).far (by simp only [ne_eq]; omega) _).far (by simp only [ne_eq]; omega) _), (grow_far (grow_far (grow_far (grow_far HGx.out (by simp) _) (by simp) _) (by simp) _) (by simp) _)⟩
   | true =>
    go_wp2_with fail
    refine (Below_any S A n c (tk1 + 1) m2 3 _ HSx.out (HA0.out.grown HS0.out HGx.out) hn (by omega) (by decide) (by decide)).mono ?_
    rintro e w3 ⟨r3, m3, rfl, r30, r31, r32, hs3, g3⟩
    have HSy := Lib.hid hs3
    have Hb0y := Lib.hid (Hb0x.out.grown g3 (by omega))
    have Hb1y := Lib.hid (Hb1x.out.grown g3 (by omega))
    have HGy := Lib.hid (HGx.out.trans g3)
    clear hs3 g3
    have hy0 := Hb0y.out.lt
    have hy1 := Hb1y.out.lt
    rcases (by omega : r3 = 0 ∨ r3 = 1 ∨ r3 = 2) with rfl | rfl | rfl
    ·go_wp2_with fail
     rename_i Kc hKc
     have HSL := Lib.hid (show slotsOf [some 36, some 37, some 38, some 39, some 40, some 41, some 42, none, some 43, none] = [36, 37, 38, 39, 40, 41, 42, 43] from rfl)
     refine wp_region_partsG (by kernel_rfl) [some 36, some 37, some 38, some 39, some 40, some 41, some 42, none, some 43, none] (fun jq xq w' => match jq with
      | 0 => xq 36 = .int .i64 1
      | 1 => xq 37 = .int .i64 1
      | 2 => xq 38 = .pointer (some ⟨w.heap.size + 1, 1, none⟩)
      | 3 => xq 39 = .int .i64 a1
      | 4 => xq 40 = .pointer (some ⟨w.heap.size + 1, 0, none⟩)
      | 5 => xq 41 = .int .i64 left
      | 6 => xq 42 = .pointer (some ⟨w.heap.size + 1, 0, none⟩)
      | 7 => Holds w' (w.heap.size + 1) 28 #[.int .i64 a1, .int .i64 a1, .int .i64 a2, .int .i64 a3]
      | 8 => xq 43 = .pointer (some ⟨w.heap.size + 1, 1, none⟩)
      | 9 => Holds w' (w.heap.size + 1) 28 #[.int .i64 a1, .int .i64 left, .int .i64 a2, .int .i64 a3]
      | 10 => Holds w' (w.heap.size + 1) 28 #[.int .i64 left, .int .i64 a1, .int .i64 a2, .int .i64 a3]
      | _ => True) [[36], [37], [38], [39], [40], [41], [42], [], [43], [], []] [(7, 10), (9, 7), (9, 10)] (Below (w.heap.size + 1) w3) (by kernel_rfl) ?_ ?_ (fun w' w'' hb h => h.trans (hb.mono (Nat.le_trans (by omega) h.size))) (Below.refl _ _) ?_ ?_ ?_
     ·intro jq xq xq' wq h hv
      match jq, h, hv with
      | 0, h, hv => show xq' 36 = .int .i64 1; rw [← h 36 (by decide)]; exact hv
      | 1, h, hv => show xq' 37 = .int .i64 1; rw [← h 37 (by decide)]; exact hv
      | 2, h, hv => show xq' 38 = .pointer (some ⟨w.heap.size + 1, 1, none⟩); rw [← h 38 (by decide)]; exact hv
      | 3, h, hv => show xq' 39 = .int .i64 a1; rw [← h 39 (by decide)]; exact hv
      | 4, h, hv => show xq' 40 = .pointer (some ⟨w.heap.size + 1, 0, none⟩); rw [← h 40 (by decide)]; exact hv
      | 5, h, hv => show xq' 41 = .int .i64 left; rw [← h 41 (by decide)]; exact hv
      | 6, h, hv => show xq' 42 = .pointer (some ⟨w.heap.size + 1, 0, none⟩); rw [← h 42 (by decide)]; exact hv
      | 7, h, hv => exact hv
      | 8, h, hv => show xq' 43 = .pointer (some ⟨w.heap.size + 1, 1, none⟩); rw [← h 43 (by decide)]; exact hv
      | 9, h, hv => exact hv
      | 10, h, hv => exact hv
      | _ + 11, _, _ => trivial
     ·intro jq xq wq w' hb' hv
      match jq, hv with
      | 0, hv => exact hv
      | 1, hv => exact hv
      | 2, hv => exact hv
      | 3, hv => exact hv
      | 4, hv => exact hv
      | 5, hv => exact hv
      | 6, hv => exact hv
      | 7, h0 => exact h0.up hb'
      | 8, hv => exact hv
      | 9, h0 => exact h0.up hb'
      | 10, h0 => exact h0.up hb'
      | _ + 11, _ => trivial
     ·intro jq hj
      match jq, hj with
      | 0, hj => exact absurd hj (by decide)
      | 1, hj => exact absurd hj (by decide)
      | 2, hj => exact absurd hj (by decide)
      | 3, hj => exact absurd hj (by decide)
      | 4, hj => exact absurd hj (by decide)
      | 5, hj => exact absurd hj (by decide)
      | 6, hj => exact absurd hj (by decide)
      | 7, hj => exact absurd hj (by decide)
      | 8, hj => exact absurd hj (by decide)
      | 9, hj => exact absurd hj (by decide)
      | 10, _ => exact Hb1y.out
      | _ + 11, _ => trivial
     ·refine ⟨?_, ?_, ?_, ?_, ?_, ?_, ?_, ?_, ?_, ?_, trivial⟩
      ·intro xq w1 hb1 hx K hK0
       have hK := fun v w' hb => hK0 v w' (.inl hb)
       clear hx hKc hK0
       simp only [frameOf, fill, setSlot, sg, Nat.reduceBEq, if_true, if_false, Nat.reduceAdd, Nat.reduceEqDiff, HSL.out] at hK ⊢
       go_wp2_with (fail)
       exact hK _ _ (Below.refl _ _) rfl
      ·intro xq w1 hb1 hx K hK0
       have hK := fun v w' hb => hK0 v w' (.inl hb)
       clear hx hKc hK0
       simp only [frameOf, fill, setSlot, sg, Nat.reduceBEq, if_true, if_false, Nat.reduceAdd, Nat.reduceEqDiff, HSL.out] at hK ⊢
       go_wp2_with (fail)
       exact hK _ _ (Below.refl _ _) rfl
      ·intro xq w1 hb1 hx K hK0
       have hK := fun v w' hb => hK0 v w' (.inl hb)
       have e37 : xq 37 = .int .i64 1 := hx 1 (by rfl) (by rfl)
       clear hx hKc hK0
       simp only [frameOf, fill, setSlot, sg, Nat.reduceBEq, if_true, if_false, Nat.reduceAdd, Nat.reduceEqDiff, HSL.out] at hK ⊢
       simp only [e37] at hK ⊢
       clear e37
       go_wp2_with (fail)
       exact hK _ _ (Below.refl _ _) rfl
      ·intro xq w1 hb1 hx K hK0
       have hK := fun v w' hb => hK0 v w' (.inl hb)
       have e38 : xq 38 = .pointer (some ⟨w.heap.size + 1, 1, none⟩) := hx 2 (by rfl) (by rfl)
       have fib_0 : Holds w1 (w.heap.size + 1) 28 #[.int .i64 left, .int .i64 a1, .int .i64 a2, .int .i64 a3] := hx 10 (by rfl) (by rfl)
       clear hx hKc hK0
       obtain ⟨q0, q1, q2, q3⟩ := fib_0.c4
       obtain ⟨y0, y1, y2, y3⟩ := fib_0.f4
       simp only [frameOf, fill, setSlot, sg, Nat.reduceBEq, if_true, if_false, Nat.reduceAdd, Nat.reduceEqDiff, HSL.out] at hK ⊢
       simp only [e38] at hK ⊢
       clear e38
       go_wp2_with (fail)
       exact hK _ _ (Below.refl _ _) rfl
      ·intro xq w1 hb1 hx K hK0
       have hK := fun v w' hb => hK0 v w' (.inl hb)
       clear hx hKc hK0
       simp only [frameOf, fill, setSlot, sg, Nat.reduceBEq, if_true, if_false, Nat.reduceAdd, Nat.reduceEqDiff, HSL.out] at hK ⊢
       go_wp2_with (fail)
       exact hK _ _ (Below.refl _ _) rfl
      ·intro xq w1 hb1 hx K hK0
       have hK := fun v w' hb => hK0 v w' (.inl hb)
       have e40 : xq 40 = .pointer (some ⟨w.heap.size + 1, 0, none⟩) := hx 4 (by rfl) (by rfl)
       have fib_0 : Holds w1 (w.heap.size + 1) 28 #[.int .i64 left, .int .i64 a1, .int .i64 a2, .int .i64 a3] := hx 10 (by rfl) (by rfl)
       clear hx hKc hK0
       obtain ⟨q0, q1, q2, q3⟩ := fib_0.c4
       obtain ⟨y0, y1, y2, y3⟩ := fib_0.f4
       simp only [frameOf, fill, setSlot, sg, Nat.reduceBEq, if_true, if_false, Nat.reduceAdd, Nat.reduceEqDiff, HSL.out] at hK ⊢
       simp only [e40] at hK ⊢
       clear e40
       go_wp2_with (fail)
       exact hK _ _ (Below.refl _ _) rfl
      ·intro xq w1 hb1 hx K hK0
       have hK := fun v w' hb => hK0 v w' (.inl hb)
       clear hx hKc hK0
       simp only [frameOf, fill, setSlot, sg, Nat.reduceBEq, if_true, if_false, Nat.reduceAdd, Nat.reduceEqDiff, HSL.out] at hK ⊢
       go_wp2_with (fail)
       exact hK _ _ (Below.refl _ _) rfl
      ·intro xq w1 hb1 hx K hK0
       have hK := fun v w' hb => hK0 v w' (.inr hb)
       have e39 : xq 39 = .int .i64 a1 := hx 3 (by rfl) (by rfl)
       have e42 : xq 42 = .pointer (some ⟨w.heap.size + 1, 0, none⟩) := hx 6 (by rfl) (by rfl)
       have fib_0 : Holds w1 (w.heap.size + 1) 28 #[.int .i64 left, .int .i64 a1, .int .i64 a2, .int .i64 a3] := hx 10 (by rfl) (by rfl)
       clear hx hKc hK0
       obtain ⟨q0, q1, q2, q3⟩ := fib_0.c4
       obtain ⟨y0, y1, y2, y3⟩ := fib_0.f4
       simp only [frameOf, fill, setSlot, sg, Nat.reduceBEq, if_true, if_false, Nat.reduceAdd, Nat.reduceEqDiff, HSL.out] at hK ⊢
       have E39 := Lib.hid e39
       have E42 := Lib.hid e42
       simp only [e39, e42] at hK ⊢
       clear e39 e42
       go_wp2_with (fail)
       refine hK undef _ ⟨zg, ?_⟩ (by have h := fib_0; (repeat first | (with_reducible first | assumption | apply Holds.set8 | apply Holds.set4 | apply Holds.putL | ((refine Holds.new' _ _ ?_); (simp; done)) | refine Holds.alloc ?_ _ | refine Holds.drew ?_ | refine Holds.far ?_ (by simp only [ne_eq]; omega) _) | rfl))
       intro jq xq hd hne hv
       match jq, hd, hne, hv with
       | 0, _, _, hv => exact hv
       | 1, _, _, hv => exact hv
       | 2, _, _, hv => exact hv
       | 3, _, _, hv => exact hv
       | 4, _, _, hv => exact hv
       | 5, _, _, hv => exact hv
       | 6, _, _, hv => exact hv
       | 7, _, hne, _ => exact absurd rfl hne
       | 8, _, _, hv => exact hv
       | 9, _, _, hv => have h : Holds _ _ _ _ := hv; show Holds _ _ _ _; (repeat first | (with_reducible first | assumption | apply Holds.set8 | apply Holds.set4 | apply Holds.putL | ((refine Holds.new' _ _ ?_); (simp; done)) | refine Holds.alloc ?_ _ | refine Holds.drew ?_ | refine Holds.far ?_ (by simp only [ne_eq]; omega) _) | rfl)
       | 10, hd, _, _ => exact absurd hd (by decide)
       | _ + 11, _, _, _ => trivial
      ·intro xq w1 hb1 hx K hK0
       have hK := fun v w' hb => hK0 v w' (.inl hb)
       have e36 : xq 36 = .int .i64 1 := hx 0 (by rfl) (by rfl)
       have fn7_0 : Holds w1 (w.heap.size + 1) 28 #[.int .i64 a1, .int .i64 a1, .int .i64 a2, .int .i64 a3] := hx 7 (by rfl) (by rfl)
       clear hx hKc hK0
       simp only [frameOf, fill, setSlot, sg, Nat.reduceBEq, if_true, if_false, Nat.reduceAdd, Nat.reduceEqDiff, HSL.out] at hK ⊢
       simp only [e36] at hK ⊢
       clear e36
       go_wp2_with (fail)
       exact hK _ _ (Below.refl _ _) rfl
      ·intro xq w1 hb1 hx K hK0
       have hK := fun v w' hb => hK0 v w' (.inr hb)
       have e41 : xq 41 = .int .i64 left := hx 5 (by rfl) (by rfl)
       have fn7_0 : Holds w1 (w.heap.size + 1) 28 #[.int .i64 a1, .int .i64 a1, .int .i64 a2, .int .i64 a3] := hx 7 (by rfl) (by rfl)
       have e43 : xq 43 = .pointer (some ⟨w.heap.size + 1, 1, none⟩) := hx 8 (by rfl) (by rfl)
       clear hx hKc hK0
       obtain ⟨q0, q1, q2, q3⟩ := fn7_0.c4
       obtain ⟨y0, y1, y2, y3⟩ := fn7_0.f4
       simp only [frameOf, fill, setSlot, sg, Nat.reduceBEq, if_true, if_false, Nat.reduceAdd, Nat.reduceEqDiff, HSL.out] at hK ⊢
       have E41 := Lib.hid e41
       have E43 := Lib.hid e43
       simp only [e41, e43] at hK ⊢
       clear e41 e43
       go_wp2_with (fail)
       refine hK undef _ ⟨zg, ?_⟩ (by have h := fn7_0; (repeat first | (with_reducible first | assumption | apply Holds.set8 | apply Holds.set4 | apply Holds.putL | ((refine Holds.new' _ _ ?_); (simp; done)) | refine Holds.alloc ?_ _ | refine Holds.drew ?_ | refine Holds.far ?_ (by simp only [ne_eq]; omega) _) | rfl))
       intro jq xq hd hne hv
       match jq, hd, hne, hv with
       | 0, _, _, hv => exact hv
       | 1, _, _, hv => exact hv
       | 2, _, _, hv => exact hv
       | 3, _, _, hv => exact hv
       | 4, _, _, hv => exact hv
       | 5, _, _, hv => exact hv
       | 6, _, _, hv => exact hv
       | 7, hd, _, _ => exact absurd hd (by decide)
       | 8, _, _, hv => exact hv
       | 9, _, hne, _ => exact absurd rfl hne
       | 10, hd, _, _ => exact absurd hd (by decide)
       | _ + 11, _, _, _ => trivial
     ·intro xq w1 hb1 hx
      have e36 : xq 36 = .int .i64 1 := hx 0 (by decide)
      have e37 : xq 37 = .int .i64 1 := hx 1 (by decide)
      have e38 : xq 38 = .pointer (some ⟨w.heap.size + 1, 1, none⟩) := hx 2 (by decide)
      have e39 : xq 39 = .int .i64 a1 := hx 3 (by decide)
      have e40 : xq 40 = .pointer (some ⟨w.heap.size + 1, 0, none⟩) := hx 4 (by decide)
      have e41 : xq 41 = .int .i64 left := hx 5 (by decide)
      have e42 : xq 42 = .pointer (some ⟨w.heap.size + 1, 0, none⟩) := hx 6 (by decide)
      have e43 : xq 43 = .pointer (some ⟨w.heap.size + 1, 1, none⟩) := hx 8 (by decide)
      have fn9_0 : Holds w1 (w.heap.size + 1) 28 #[.int .i64 a1, .int .i64 left, .int .i64 a2, .int .i64 a3] := hx 9 (by decide)
      clear hx
      simp only [frameOf, fill, setSlot, sg, Nat.reduceBEq, if_true, if_false, Nat.reduceAdd, Nat.reduceEqDiff, HSL.out]
      simp only [e36, e37, e38, e39, e40, e41, e42, e43]
      clear e36 e37 e38 e39 e40 e41 e42 e43
      refine hKc _ _ ?_
      have Hc := Lib.hid fn9_0
      have Hz := Lib.hid (Hb0y.out.low hb1 (by omega))
      obtain ⟨q0, q1, q2, q3⟩ := Hc.out.c4
      obtain ⟨e0, e1, e2, e3⟩ := Hz.out.c4
      obtain ⟨y0, y1, y2, y3⟩ := Hz.out.f4
      go_wp2_with fail
      have h := Hz.out
      exact ret_cell rfl rfl (zp0 : Holds _ (w.heap.size) 28 #[.int .i64 a1, .int .i64 left, .int .i64 a2, .int .i64 a3]) Try.underlying28 rfl (by kernel_rfl) rfl ⟨a1, left, a2, a3, _, _, rfl, ⟨by omega, by omega, by omega, by omega, by omega⟩, by omega, (((((HSy.out.low hb1 (by omega)).far (by simp only [ne_eq]; omega) _).far (by simp only [ne_eq]; omega) _).far (by simp only [ne_eq]; omega) _).far (by simp only [ne_eq]; omega) _), (grow_far (grow_far (grow_far (grow_far (grow_low HGy.out hb1 (by omega)) (by simp) _) (by simp) _) (by simp) _) (by simp) _)⟩
    ·go_wp2_with fail
     rename_i Kc hKc
     have HSL := Lib.hid (show slotsOf [some 36, some 37, some 38, some 39, some 40, some 41, some 42, none, some 43, none] = [36, 37, 38, 39, 40, 41, 42, 43] from rfl)
     refine wp_region_partsG (by kernel_rfl) [some 36, some 37, some 38, some 39, some 40, some 41, some 42, none, some 43, none] (fun jq xq w' => match jq with
      | 0 => xq 36 = .int .i64 2
      | 1 => xq 37 = .int .i64 2
      | 2 => xq 38 = .pointer (some ⟨w.heap.size + 1, 2, none⟩)
      | 3 => xq 39 = .int .i64 a2
      | 4 => xq 40 = .pointer (some ⟨w.heap.size + 1, 0, none⟩)
      | 5 => xq 41 = .int .i64 left
      | 6 => xq 42 = .pointer (some ⟨w.heap.size + 1, 0, none⟩)
      | 7 => Holds w' (w.heap.size + 1) 28 #[.int .i64 a2, .int .i64 a1, .int .i64 a2, .int .i64 a3]
      | 8 => xq 43 = .pointer (some ⟨w.heap.size + 1, 2, none⟩)
      | 9 => Holds w' (w.heap.size + 1) 28 #[.int .i64 a2, .int .i64 a1, .int .i64 left, .int .i64 a3]
      | 10 => Holds w' (w.heap.size + 1) 28 #[.int .i64 left, .int .i64 a1, .int .i64 a2, .int .i64 a3]
      | _ => True) [[36], [37], [38], [39], [40], [41], [42], [], [43], [], []] [(7, 10), (9, 7), (9, 10)] (Below (w.heap.size + 1) w3) (by kernel_rfl) ?_ ?_ (fun w' w'' hb h => h.trans (hb.mono (Nat.le_trans (by omega) h.size))) (Below.refl _ _) ?_ ?_ ?_
     ·intro jq xq xq' wq h hv
      match jq, h, hv with
      | 0, h, hv => show xq' 36 = .int .i64 2; rw [← h 36 (by decide)]; exact hv
      | 1, h, hv => show xq' 37 = .int .i64 2; rw [← h 37 (by decide)]; exact hv
      | 2, h, hv => show xq' 38 = .pointer (some ⟨w.heap.size + 1, 2, none⟩); rw [← h 38 (by decide)]; exact hv
      | 3, h, hv => show xq' 39 = .int .i64 a2; rw [← h 39 (by decide)]; exact hv
      | 4, h, hv => show xq' 40 = .pointer (some ⟨w.heap.size + 1, 0, none⟩); rw [← h 40 (by decide)]; exact hv
      | 5, h, hv => show xq' 41 = .int .i64 left; rw [← h 41 (by decide)]; exact hv
      | 6, h, hv => show xq' 42 = .pointer (some ⟨w.heap.size + 1, 0, none⟩); rw [← h 42 (by decide)]; exact hv
      | 7, h, hv => exact hv
      | 8, h, hv => show xq' 43 = .pointer (some ⟨w.heap.size + 1, 2, none⟩); rw [← h 43 (by decide)]; exact hv
      | 9, h, hv => exact hv
      | 10, h, hv => exact hv
      | _ + 11, _, _ => trivial
     ·intro jq xq wq w' hb' hv
      match jq, hv with
      | 0, hv => exact hv
      | 1, hv => exact hv
      | 2, hv => exact hv
      | 3, hv => exact hv
      | 4, hv => exact hv
      | 5, hv => exact hv
      | 6, hv => exact hv
      | 7, h0 => exact h0.up hb'
      | 8, hv => exact hv
      | 9, h0 => exact h0.up hb'
      | 10, h0 => exact h0.up hb'
      | _ + 11, _ => trivial
     ·intro jq hj
      match jq, hj with
      | 0, hj => exact absurd hj (by decide)
      | 1, hj => exact absurd hj (by decide)
      | 2, hj => exact absurd hj (by decide)
      | 3, hj => exact absurd hj (by decide)
      | 4, hj => exact absurd hj (by decide)
      | 5, hj => exact absurd hj (by decide)
      | 6, hj => exact absurd hj (by decide)
      | 7, hj => exact absurd hj (by decide)
      | 8, hj => exact absurd hj (by decide)
      | 9, hj => exact absurd hj (by decide)
      | 10, _ => exact Hb1y.out
      | _ + 11, _ => trivial
     ·refine ⟨?_, ?_, ?_, ?_, ?_, ?_, ?_, ?_, ?_, ?_, trivial⟩
      ·intro xq w1 hb1 hx K hK0
       have hK := fun v w' hb => hK0 v w' (.inl hb)
       clear hx hKc hK0
       simp only [frameOf, fill, setSlot, sg, Nat.reduceBEq, if_true, if_false, Nat.reduceAdd, Nat.reduceEqDiff, HSL.out] at hK ⊢
       go_wp2_with (fail)
       exact hK _ _ (Below.refl _ _) rfl
      ·intro xq w1 hb1 hx K hK0
       have hK := fun v w' hb => hK0 v w' (.inl hb)
       clear hx hKc hK0
       simp only [frameOf, fill, setSlot, sg, Nat.reduceBEq, if_true, if_false, Nat.reduceAdd, Nat.reduceEqDiff, HSL.out] at hK ⊢
       go_wp2_with (fail)
       exact hK _ _ (Below.refl _ _) rfl
      ·intro xq w1 hb1 hx K hK0
       have hK := fun v w' hb => hK0 v w' (.inl hb)
       have e37 : xq 37 = .int .i64 2 := hx 1 (by rfl) (by rfl)
       clear hx hKc hK0
       simp only [frameOf, fill, setSlot, sg, Nat.reduceBEq, if_true, if_false, Nat.reduceAdd, Nat.reduceEqDiff, HSL.out] at hK ⊢
       simp only [e37] at hK ⊢
       clear e37
       go_wp2_with (fail)
       exact hK _ _ (Below.refl _ _) rfl
      ·intro xq w1 hb1 hx K hK0
       have hK := fun v w' hb => hK0 v w' (.inl hb)
       have e38 : xq 38 = .pointer (some ⟨w.heap.size + 1, 2, none⟩) := hx 2 (by rfl) (by rfl)
       have fib_0 : Holds w1 (w.heap.size + 1) 28 #[.int .i64 left, .int .i64 a1, .int .i64 a2, .int .i64 a3] := hx 10 (by rfl) (by rfl)
       clear hx hKc hK0
       obtain ⟨q0, q1, q2, q3⟩ := fib_0.c4
       obtain ⟨y0, y1, y2, y3⟩ := fib_0.f4
       simp only [frameOf, fill, setSlot, sg, Nat.reduceBEq, if_true, if_false, Nat.reduceAdd, Nat.reduceEqDiff, HSL.out] at hK ⊢
       simp only [e38] at hK ⊢
       clear e38
       go_wp2_with (fail)
       exact hK _ _ (Below.refl _ _) rfl
      ·intro xq w1 hb1 hx K hK0
       have hK := fun v w' hb => hK0 v w' (.inl hb)
       clear hx hKc hK0
       simp only [frameOf, fill, setSlot, sg, Nat.reduceBEq, if_true, if_false, Nat.reduceAdd, Nat.reduceEqDiff, HSL.out] at hK ⊢
       go_wp2_with (fail)
       exact hK _ _ (Below.refl _ _) rfl
      ·intro xq w1 hb1 hx K hK0
       have hK := fun v w' hb => hK0 v w' (.inl hb)
       have e40 : xq 40 = .pointer (some ⟨w.heap.size + 1, 0, none⟩) := hx 4 (by rfl) (by rfl)
       have fib_0 : Holds w1 (w.heap.size + 1) 28 #[.int .i64 left, .int .i64 a1, .int .i64 a2, .int .i64 a3] := hx 10 (by rfl) (by rfl)
       clear hx hKc hK0
       obtain ⟨q0, q1, q2, q3⟩ := fib_0.c4
       obtain ⟨y0, y1, y2, y3⟩ := fib_0.f4
       simp only [frameOf, fill, setSlot, sg, Nat.reduceBEq, if_true, if_false, Nat.reduceAdd, Nat.reduceEqDiff, HSL.out] at hK ⊢
       simp only [e40] at hK ⊢
       clear e40
       go_wp2_with (fail)
       exact hK _ _ (Below.refl _ _) rfl
      ·intro xq w1 hb1 hx K hK0
       have hK := fun v w' hb => hK0 v w' (.inl hb)
       clear hx hKc hK0
       simp only [frameOf, fill, setSlot, sg, Nat.reduceBEq, if_true, if_false, Nat.reduceAdd, Nat.reduceEqDiff, HSL.out] at hK ⊢
       go_wp2_with (fail)
       exact hK _ _ (Below.refl _ _) rfl
      ·intro xq w1 hb1 hx K hK0
       have hK := fun v w' hb => hK0 v w' (.inr hb)
       have e39 : xq 39 = .int .i64 a2 := hx 3 (by rfl) (by rfl)
       have e42 : xq 42 = .pointer (some ⟨w.heap.size + 1, 0, none⟩) := hx 6 (by rfl) (by rfl)
       have fib_0 : Holds w1 (w.heap.size + 1) 28 #[.int .i64 left, .int .i64 a1, .int .i64 a2, .int .i64 a3] := hx 10 (by rfl) (by rfl)
       clear hx hKc hK0
       obtain ⟨q0, q1, q2, q3⟩ := fib_0.c4
       obtain ⟨y0, y1, y2, y3⟩ := fib_0.f4
       simp only [frameOf, fill, setSlot, sg, Nat.reduceBEq, if_true, if_false, Nat.reduceAdd, Nat.reduceEqDiff, HSL.out] at hK ⊢
       have E39 := Lib.hid e39
       have E42 := Lib.hid e42
       simp only [e39, e42] at hK ⊢
       clear e39 e42
       go_wp2_with (fail)
       refine hK undef _ ⟨zg, ?_⟩ (by have h := fib_0; (repeat first | (with_reducible first | assumption | apply Holds.set8 | apply Holds.set4 | apply Holds.putL | ((refine Holds.new' _ _ ?_); (simp; done)) | refine Holds.alloc ?_ _ | refine Holds.drew ?_ | refine Holds.far ?_ (by simp only [ne_eq]; omega) _) | rfl))
       intro jq xq hd hne hv
       match jq, hd, hne, hv with
       | 0, _, _, hv => exact hv
       | 1, _, _, hv => exact hv
       | 2, _, _, hv => exact hv
       | 3, _, _, hv => exact hv
       | 4, _, _, hv => exact hv
       | 5, _, _, hv => exact hv
       | 6, _, _, hv => exact hv
       | 7, _, hne, _ => exact absurd rfl hne
       | 8, _, _, hv => exact hv
       | 9, _, _, hv => have h : Holds _ _ _ _ := hv; show Holds _ _ _ _; (repeat first | (with_reducible first | assumption | apply Holds.set8 | apply Holds.set4 | apply Holds.putL | ((refine Holds.new' _ _ ?_); (simp; done)) | refine Holds.alloc ?_ _ | refine Holds.drew ?_ | refine Holds.far ?_ (by simp only [ne_eq]; omega) _) | rfl)
       | 10, hd, _, _ => exact absurd hd (by decide)
       | _ + 11, _, _, _ => trivial
      ·intro xq w1 hb1 hx K hK0
       have hK := fun v w' hb => hK0 v w' (.inl hb)
       have e36 : xq 36 = .int .i64 2 := hx 0 (by rfl) (by rfl)
       have fn7_0 : Holds w1 (w.heap.size + 1) 28 #[.int .i64 a2, .int .i64 a1, .int .i64 a2, .int .i64 a3] := hx 7 (by rfl) (by rfl)
       clear hx hKc hK0
       simp only [frameOf, fill, setSlot, sg, Nat.reduceBEq, if_true, if_false, Nat.reduceAdd, Nat.reduceEqDiff, HSL.out] at hK ⊢
       simp only [e36] at hK ⊢
       clear e36
       go_wp2_with (fail)
       exact hK _ _ (Below.refl _ _) rfl
      ·intro xq w1 hb1 hx K hK0
       have hK := fun v w' hb => hK0 v w' (.inr hb)
       have e41 : xq 41 = .int .i64 left := hx 5 (by rfl) (by rfl)
       have fn7_0 : Holds w1 (w.heap.size + 1) 28 #[.int .i64 a2, .int .i64 a1, .int .i64 a2, .int .i64 a3] := hx 7 (by rfl) (by rfl)
       have e43 : xq 43 = .pointer (some ⟨w.heap.size + 1, 2, none⟩) := hx 8 (by rfl) (by rfl)
       clear hx hKc hK0
       obtain ⟨q0, q1, q2, q3⟩ := fn7_0.c4
       obtain ⟨y0, y1, y2, y3⟩ := fn7_0.f4
       simp only [frameOf, fill, setSlot, sg, Nat.reduceBEq, if_true, if_false, Nat.reduceAdd, Nat.reduceEqDiff, HSL.out] at hK ⊢
       have E41 := Lib.hid e41
       have E43 := Lib.hid e43
       simp only [e41, e43] at hK ⊢
       clear e41 e43
       go_wp2_with (fail)
       refine hK undef _ ⟨zg, ?_⟩ (by have h := fn7_0; (repeat first | (with_reducible first | assumption | apply Holds.set8 | apply Holds.set4 | apply Holds.putL | ((refine Holds.new' _ _ ?_); (simp; done)) | refine Holds.alloc ?_ _ | refine Holds.drew ?_ | refine Holds.far ?_ (by simp only [ne_eq]; omega) _) | rfl))
       intro jq xq hd hne hv
       match jq, hd, hne, hv with
       | 0, _, _, hv => exact hv
       | 1, _, _, hv => exact hv
       | 2, _, _, hv => exact hv
       | 3, _, _, hv => exact hv
       | 4, _, _, hv => exact hv
       | 5, _, _, hv => exact hv
       | 6, _, _, hv => exact hv
       | 7, hd, _, _ => exact absurd hd (by decide)
       | 8, _, _, hv => exact hv
       | 9, _, hne, _ => exact absurd rfl hne
       | 10, hd, _, _ => exact absurd hd (by decide)
       | _ + 11, _, _, _ => trivial
     ·intro xq w1 hb1 hx
      have e36 : xq 36 = .int .i64 2 := hx 0 (by decide)
      have e37 : xq 37 = .int .i64 2 := hx 1 (by decide)
      have e38 : xq 38 = .pointer (some ⟨w.heap.size + 1, 2, none⟩) := hx 2 (by decide)
      have e39 : xq 39 = .int .i64 a2 := hx 3 (by decide)
      have e40 : xq 40 = .pointer (some ⟨w.heap.size + 1, 0, none⟩) := hx 4 (by decide)
      have e41 : xq 41 = .int .i64 left := hx 5 (by decide)
      have e42 : xq 42 = .pointer (some ⟨w.heap.size + 1, 0, none⟩) := hx 6 (by decide)
      have e43 : xq 43 = .pointer (some ⟨w.heap.size + 1, 2, none⟩) := hx 8 (by decide)
      have fn9_0 : Holds w1 (w.heap.size + 1) 28 #[.int .i64 a2, .int .i64 a1, .int .i64 left, .int .i64 a3] := hx 9 (by decide)
      clear hx
      simp only [frameOf, fill, setSlot, sg, Nat.reduceBEq, if_true, if_false, Nat.reduceAdd, Nat.reduceEqDiff, HSL.out]
      simp only [e36, e37, e38, e39, e40, e41, e42, e43]
      clear e36 e37 e38 e39 e40 e41 e42 e43
      refine hKc _ _ ?_
      have Hc := Lib.hid fn9_0
      have Hz := Lib.hid (Hb0y.out.low hb1 (by omega))
      obtain ⟨q0, q1, q2, q3⟩ := Hc.out.c4
      obtain ⟨e0, e1, e2, e3⟩ := Hz.out.c4
      obtain ⟨y0, y1, y2, y3⟩ := Hz.out.f4
      go_wp2_with fail
      have h := Hz.out
      exact ret_cell rfl rfl (zp0 : Holds _ (w.heap.size) 28 #[.int .i64 a2, .int .i64 a1, .int .i64 left, .int .i64 a3]) Try.underlying28 rfl (by kernel_rfl) rfl ⟨a2, a1, left, a3, _, _, rfl, ⟨by omega, by omega, by omega, by omega, by omega⟩, by omega, (((((HSy.out.low hb1 (by omega)).far (by simp only [ne_eq]; omega) _).far (by simp only [ne_eq]; omega) _).far (by simp only [ne_eq]; omega) _).far (by simp only [ne_eq]; omega) _), (grow_far (grow_far (grow_far (grow_far (grow_low HGy.out hb1 (by omega)) (by simp) _) (by simp) _) (by simp) _) (by simp) _)⟩
    ·go_wp2_with fail
     rename_i Kc hKc
     have HSL := Lib.hid (show slotsOf [some 36, some 37, some 38, some 39, some 40, some 41, some 42, none, some 43, none] = [36, 37, 38, 39, 40, 41, 42, 43] from rfl)
     refine wp_region_partsG (by kernel_rfl) [some 36, some 37, some 38, some 39, some 40, some 41, some 42, none, some 43, none] (fun jq xq w' => match jq with
      | 0 => xq 36 = .int .i64 3
      | 1 => xq 37 = .int .i64 3
      | 2 => xq 38 = .pointer (some ⟨w.heap.size + 1, 3, none⟩)
      | 3 => xq 39 = .int .i64 a3
      | 4 => xq 40 = .pointer (some ⟨w.heap.size + 1, 0, none⟩)
      | 5 => xq 41 = .int .i64 left
      | 6 => xq 42 = .pointer (some ⟨w.heap.size + 1, 0, none⟩)
      | 7 => Holds w' (w.heap.size + 1) 28 #[.int .i64 a3, .int .i64 a1, .int .i64 a2, .int .i64 a3]
      | 8 => xq 43 = .pointer (some ⟨w.heap.size + 1, 3, none⟩)
      | 9 => Holds w' (w.heap.size + 1) 28 #[.int .i64 a3, .int .i64 a1, .int .i64 a2, .int .i64 left]
      | 10 => Holds w' (w.heap.size + 1) 28 #[.int .i64 left, .int .i64 a1, .int .i64 a2, .int .i64 a3]
      | _ => True) [[36], [37], [38], [39], [40], [41], [42], [], [43], [], []] [(7, 10), (9, 7), (9, 10)] (Below (w.heap.size + 1) w3) (by kernel_rfl) ?_ ?_ (fun w' w'' hb h => h.trans (hb.mono (Nat.le_trans (by omega) h.size))) (Below.refl _ _) ?_ ?_ ?_
     ·intro jq xq xq' wq h hv
      match jq, h, hv with
      | 0, h, hv => show xq' 36 = .int .i64 3; rw [← h 36 (by decide)]; exact hv
      | 1, h, hv => show xq' 37 = .int .i64 3; rw [← h 37 (by decide)]; exact hv
      | 2, h, hv => show xq' 38 = .pointer (some ⟨w.heap.size + 1, 3, none⟩); rw [← h 38 (by decide)]; exact hv
      | 3, h, hv => show xq' 39 = .int .i64 a3; rw [← h 39 (by decide)]; exact hv
      | 4, h, hv => show xq' 40 = .pointer (some ⟨w.heap.size + 1, 0, none⟩); rw [← h 40 (by decide)]; exact hv
      | 5, h, hv => show xq' 41 = .int .i64 left; rw [← h 41 (by decide)]; exact hv
      | 6, h, hv => show xq' 42 = .pointer (some ⟨w.heap.size + 1, 0, none⟩); rw [← h 42 (by decide)]; exact hv
      | 7, h, hv => exact hv
      | 8, h, hv => show xq' 43 = .pointer (some ⟨w.heap.size + 1, 3, none⟩); rw [← h 43 (by decide)]; exact hv
      | 9, h, hv => exact hv
      | 10, h, hv => exact hv
      | _ + 11, _, _ => trivial
     ·intro jq xq wq w' hb' hv
      match jq, hv with
      | 0, hv => exact hv
      | 1, hv => exact hv
      | 2, hv => exact hv
      | 3, hv => exact hv
      | 4, hv => exact hv
      | 5, hv => exact hv
      | 6, hv => exact hv
      | 7, h0 => exact h0.up hb'
      | 8, hv => exact hv
      | 9, h0 => exact h0.up hb'
      | 10, h0 => exact h0.up hb'
      | _ + 11, _ => trivial
     ·intro jq hj
      match jq, hj with
      | 0, hj => exact absurd hj (by decide)
      | 1, hj => exact absurd hj (by decide)
      | 2, hj => exact absurd hj (by decide)
      | 3, hj => exact absurd hj (by decide)
      | 4, hj => exact absurd hj (by decide)
      | 5, hj => exact absurd hj (by decide)
      | 6, hj => exact absurd hj (by decide)
      | 7, hj => exact absurd hj (by decide)
      | 8, hj => exact absurd hj (by decide)
      | 9, hj => exact absurd hj (by decide)
      | 10, _ => exact Hb1y.out
      | _ + 11, _ => trivial
     ·refine ⟨?_, ?_, ?_, ?_, ?_, ?_, ?_, ?_, ?_, ?_, trivial⟩
      ·intro xq w1 hb1 hx K hK0
       have hK := fun v w' hb => hK0 v w' (.inl hb)
       clear hx hKc hK0
       simp only [frameOf, fill, setSlot, sg, Nat.reduceBEq, if_true, if_false, Nat.reduceAdd, Nat.reduceEqDiff, HSL.out] at hK ⊢
       go_wp2_with (fail)
       exact hK _ _ (Below.refl _ _) rfl
      ·intro xq w1 hb1 hx K hK0
       have hK := fun v w' hb => hK0 v w' (.inl hb)
       clear hx hKc hK0
       simp only [frameOf, fill, setSlot, sg, Nat.reduceBEq, if_true, if_false, Nat.reduceAdd, Nat.reduceEqDiff, HSL.out] at hK ⊢
       go_wp2_with (fail)
       exact hK _ _ (Below.refl _ _) rfl
      ·intro xq w1 hb1 hx K hK0
       have hK := fun v w' hb => hK0 v w' (.inl hb)
       have e37 : xq 37 = .int .i64 3 := hx 1 (by rfl) (by rfl)
       clear hx hKc hK0
       simp only [frameOf, fill, setSlot, sg, Nat.reduceBEq, if_true, if_false, Nat.reduceAdd, Nat.reduceEqDiff, HSL.out] at hK ⊢
       simp only [e37] at hK ⊢
       clear e37
       go_wp2_with (fail)
       exact hK _ _ (Below.refl _ _) rfl
      ·intro xq w1 hb1 hx K hK0
       have hK := fun v w' hb => hK0 v w' (.inl hb)
       have e38 : xq 38 = .pointer (some ⟨w.heap.size + 1, 3, none⟩) := hx 2 (by rfl) (by rfl)
       have fib_0 : Holds w1 (w.heap.size + 1) 28 #[.int .i64 left, .int .i64 a1, .int .i64 a2, .int .i64 a3] := hx 10 (by rfl) (by rfl)
       clear hx hKc hK0
       obtain ⟨q0, q1, q2, q3⟩ := fib_0.c4
       obtain ⟨y0, y1, y2, y3⟩ := fib_0.f4
       simp only [frameOf, fill, setSlot, sg, Nat.reduceBEq, if_true, if_false, Nat.reduceAdd, Nat.reduceEqDiff, HSL.out] at hK ⊢
       simp only [e38] at hK ⊢
       clear e38
       go_wp2_with (fail)
       exact hK _ _ (Below.refl _ _) rfl
      ·intro xq w1 hb1 hx K hK0
       have hK := fun v w' hb => hK0 v w' (.inl hb)
       clear hx hKc hK0
       simp only [frameOf, fill, setSlot, sg, Nat.reduceBEq, if_true, if_false, Nat.reduceAdd, Nat.reduceEqDiff, HSL.out] at hK ⊢
       go_wp2_with (fail)
       exact hK _ _ (Below.refl _ _) rfl
      ·intro xq w1 hb1 hx K hK0
       have hK := fun v w' hb => hK0 v w' (.inl hb)
       have e40 : xq 40 = .pointer (some ⟨w.heap.size + 1, 0, none⟩) := hx 4 (by rfl) (by rfl)
       have fib_0 : Holds w1 (w.heap.size + 1) 28 #[.int .i64 left, .int .i64 a1, .int .i64 a2, .int .i64 a3] := hx 10 (by rfl) (by rfl)
       clear hx hKc hK0
       obtain ⟨q0, q1, q2, q3⟩ := fib_0.c4
       obtain ⟨y0, y1, y2, y3⟩ := fib_0.f4
       simp only [frameOf, fill, setSlot, sg, Nat.reduceBEq, if_true, if_false, Nat.reduceAdd, Nat.reduceEqDiff, HSL.out] at hK ⊢
       simp only [e40] at hK ⊢
       clear e40
       go_wp2_with (fail)
       exact hK _ _ (Below.refl _ _) rfl
      ·intro xq w1 hb1 hx K hK0
       have hK := fun v w' hb => hK0 v w' (.inl hb)
       clear hx hKc hK0
       simp only [frameOf, fill, setSlot, sg, Nat.reduceBEq, if_true, if_false, Nat.reduceAdd, Nat.reduceEqDiff, HSL.out] at hK ⊢
       go_wp2_with (fail)
       exact hK _ _ (Below.refl _ _) rfl
      ·intro xq w1 hb1 hx K hK0
       have hK := fun v w' hb => hK0 v w' (.inr hb)
       have e39 : xq 39 = .int .i64 a3 := hx 3 (by rfl) (by rfl)
       have e42 : xq 42 = .pointer (some ⟨w.heap.size + 1, 0, none⟩) := hx 6 (by rfl) (by rfl)
       have fib_0 : Holds w1 (w.heap.size + 1) 28 #[.int .i64 left, .int .i64 a1, .int .i64 a2, .int .i64 a3] := hx 10 (by rfl) (by rfl)
       clear hx hKc hK0
       obtain ⟨q0, q1, q2, q3⟩ := fib_0.c4
       obtain ⟨y0, y1, y2, y3⟩ := fib_0.f4
       simp only [frameOf, fill, setSlot, sg, Nat.reduceBEq, if_true, if_false, Nat.reduceAdd, Nat.reduceEqDiff, HSL.out] at hK ⊢
       have E39 := Lib.hid e39
       have E42 := Lib.hid e42
       simp only [e39, e42] at hK ⊢
       clear e39 e42
       go_wp2_with (fail)
       refine hK undef _ ⟨zg, ?_⟩ (by have h := fib_0; (repeat first | (with_reducible first | assumption | apply Holds.set8 | apply Holds.set4 | apply Holds.putL | ((refine Holds.new' _ _ ?_); (simp; done)) | refine Holds.alloc ?_ _ | refine Holds.drew ?_ | refine Holds.far ?_ (by simp only [ne_eq]; omega) _) | rfl))
       intro jq xq hd hne hv
       match jq, hd, hne, hv with
       | 0, _, _, hv => exact hv
       | 1, _, _, hv => exact hv
       | 2, _, _, hv => exact hv
       | 3, _, _, hv => exact hv
       | 4, _, _, hv => exact hv
       | 5, _, _, hv => exact hv
       | 6, _, _, hv => exact hv
       | 7, _, hne, _ => exact absurd rfl hne
       | 8, _, _, hv => exact hv
       | 9, _, _, hv => have h : Holds _ _ _ _ := hv; show Holds _ _ _ _; (repeat first | (with_reducible first | assumption | apply Holds.set8 | apply Holds.set4 | apply Holds.putL | ((refine Holds.new' _ _ ?_); (simp; done)) | refine Holds.alloc ?_ _ | refine Holds.drew ?_ | refine Holds.far ?_ (by simp only [ne_eq]; omega) _) | rfl)
       | 10, hd, _, _ => exact absurd hd (by decide)
       | _ + 11, _, _, _ => trivial
      ·intro xq w1 hb1 hx K hK0
       have hK := fun v w' hb => hK0 v w' (.inl hb)
       have e36 : xq 36 = .int .i64 3 := hx 0 (by rfl) (by rfl)
       have fn7_0 : Holds w1 (w.heap.size + 1) 28 #[.int .i64 a3, .int .i64 a1, .int .i64 a2, .int .i64 a3] := hx 7 (by rfl) (by rfl)
       clear hx hKc hK0
       simp only [frameOf, fill, setSlot, sg, Nat.reduceBEq, if_true, if_false, Nat.reduceAdd, Nat.reduceEqDiff, HSL.out] at hK ⊢
       simp only [e36] at hK ⊢
       clear e36
       go_wp2_with (fail)
       exact hK _ _ (Below.refl _ _) rfl
      ·intro xq w1 hb1 hx K hK0
       have hK := fun v w' hb => hK0 v w' (.inr hb)
       have e41 : xq 41 = .int .i64 left := hx 5 (by rfl) (by rfl)
       have fn7_0 : Holds w1 (w.heap.size + 1) 28 #[.int .i64 a3, .int .i64 a1, .int .i64 a2, .int .i64 a3] := hx 7 (by rfl) (by rfl)
       have e43 : xq 43 = .pointer (some ⟨w.heap.size + 1, 3, none⟩) := hx 8 (by rfl) (by rfl)
       clear hx hKc hK0
       obtain ⟨q0, q1, q2, q3⟩ := fn7_0.c4
       obtain ⟨y0, y1, y2, y3⟩ := fn7_0.f4
       simp only [frameOf, fill, setSlot, sg, Nat.reduceBEq, if_true, if_false, Nat.reduceAdd, Nat.reduceEqDiff, HSL.out] at hK ⊢
       have E41 := Lib.hid e41
       have E43 := Lib.hid e43
       simp only [e41, e43] at hK ⊢
       clear e41 e43
       go_wp2_with (fail)
       refine hK undef _ ⟨zg, ?_⟩ (by have h := fn7_0; (repeat first | (with_reducible first | assumption | apply Holds.set8 | apply Holds.set4 | apply Holds.putL | ((refine Holds.new' _ _ ?_); (simp; done)) | refine Holds.alloc ?_ _ | refine Holds.drew ?_ | refine Holds.far ?_ (by simp only [ne_eq]; omega) _) | rfl))
       intro jq xq hd hne hv
       match jq, hd, hne, hv with
       | 0, _, _, hv => exact hv
       | 1, _, _, hv => exact hv
       | 2, _, _, hv => exact hv
       | 3, _, _, hv => exact hv
       | 4, _, _, hv => exact hv
       | 5, _, _, hv => exact hv
       | 6, _, _, hv => exact hv
       | 7, hd, _, _ => exact absurd hd (by decide)
       | 8, _, _, hv => exact hv
       | 9, _, hne, _ => exact absurd rfl hne
       | 10, hd, _, _ => exact absurd hd (by decide)
       | _ + 11, _, _, _ => trivial
     ·intro xq w1 hb1 hx
      have e36 : xq 36 = .int .i64 3 := hx 0 (by decide)
      have e37 : xq 37 = .int .i64 3 := hx 1 (by decide)
      have e38 : xq 38 = .pointer (some ⟨w.heap.size + 1, 3, none⟩) := hx 2 (by decide)
      have e39 : xq 39 = .int .i64 a3 := hx 3 (by decide)
      have e40 : xq 40 = .pointer (some ⟨w.heap.size + 1, 0, none⟩) := hx 4 (by decide)
      have e41 : xq 41 = .int .i64 left := hx 5 (by decide)
      have e42 : xq 42 = .pointer (some ⟨w.heap.size + 1, 0, none⟩) := hx 6 (by decide)
      have e43 : xq 43 = .pointer (some ⟨w.heap.size + 1, 3, none⟩) := hx 8 (by decide)
      have fn9_0 : Holds w1 (w.heap.size + 1) 28 #[.int .i64 a3, .int .i64 a1, .int .i64 a2, .int .i64 left] := hx 9 (by decide)
      clear hx
      simp only [frameOf, fill, setSlot, sg, Nat.reduceBEq, if_true, if_false, Nat.reduceAdd, Nat.reduceEqDiff, HSL.out]
      simp only [e36, e37, e38, e39, e40, e41, e42, e43]
      clear e36 e37 e38 e39 e40 e41 e42 e43
      refine hKc _ _ ?_
      have Hc := Lib.hid fn9_0
      have Hz := Lib.hid (Hb0y.out.low hb1 (by omega))
      obtain ⟨q0, q1, q2, q3⟩ := Hc.out.c4
      obtain ⟨e0, e1, e2, e3⟩ := Hz.out.c4
      obtain ⟨y0, y1, y2, y3⟩ := Hz.out.f4
      go_wp2_with fail
      have h := Hz.out
      exact ret_cell rfl rfl (zp0 : Holds _ (w.heap.size) 28 #[.int .i64 a3, .int .i64 a1, .int .i64 a2, .int .i64 left]) Try.underlying28 rfl (by kernel_rfl) rfl ⟨a3, a1, a2, left, _, _, rfl, ⟨by omega, by omega, by omega, by omega, by omega⟩, by omega, (((((HSy.out.low hb1 (by omega)).far (by simp only [ne_eq]; omega) _).far (by simp only [ne_eq]; omega) _).far (by simp only [ne_eq]; omega) _).far (by simp only [ne_eq]; omega) _), (grow_far (grow_far (grow_far (grow_far (grow_low HGy.out hb1 (by omega)) (by simp) _) (by simp) _) (by simp) _) (by simp) _)⟩
end Go.Proofs.Ytdpgfaikmahmpaa
