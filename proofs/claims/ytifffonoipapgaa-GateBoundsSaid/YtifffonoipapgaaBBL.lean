
import Derived.Test.YtifffonoipapgaaLAA
import Derived.Test.YtifffonoipapgaaBAC
import Derived.Test.YtifffonoipapgaaBAN
import Derived.Test.YtifffonoipapgaaBAO
import Derived.Test.YtifffonoipapgaaBAU
import Derived.Test.YtifffonoipapgaaBAX
import Derived.Test.YtifffonoipapgaaBBC
import Derived.Test.YtifffonoipapgaaBBH
set_option linter.unusedSimpArgs false
set_option linter.unusedVariables false
namespace Go.Proofs.Ytifffonoipapgaa
open Go.RowKit
def bxl (B : Bx) (k : Nat) : Int := match k with | 0 => B.l0 | 1 => B.l1 | 2 => B.l2 | _ => B.l3
def bxh (B : Bx) (k : Nat) : Int := match k with | 0 => B.h0 | 1 => B.h1 | 2 => B.h2 | _ => B.h3
theorem ok_at {B : Bx} (h : B.ok) (k : Nat) : 0 ≤ bxl B k ∧ bxl B k ≤ 40 ∧ 0 ≤ bxh B k ∧ bxh B k ≤ 40 := by
 obtain ⟨s0, s1, s2, s3⟩ := h
 unfold okSpan at s0 s1 s2 s3
 unfold bxl bxh
 split <;> omega
theorem box_lo {w : World} {b : Nat} {T : TypeId} {B : Bx} (h : Holds w b T #[.int .i64 B.l0, .int .i64 B.h0, .int .i64 B.l1, .int .i64 B.h1, .int .i64 B.l2, .int .i64 B.h2, .int .i64 B.l3, .int .i64 B.h3]) {k : Nat} (hk : k < 4) : w.cell? ⟨b, k * 2, none⟩ = some (.int .i64 (bxl B k)) := by
 rw [h.cell]
 match k, hk with
 | 0, _ => rfl
 | 1, _ => rfl
 | 2, _ => rfl
 | 3, _ => rfl
theorem box_hi {w : World} {b : Nat} {T : TypeId} {B : Bx} (h : Holds w b T #[.int .i64 B.l0, .int .i64 B.h0, .int .i64 B.l1, .int .i64 B.h1, .int .i64 B.l2, .int .i64 B.h2, .int .i64 B.l3, .int .i64 B.h3]) {k : Nat} (hk : k < 4) : w.cell? ⟨b, k * 2 + 1, none⟩ = some (.int .i64 (bxh B k)) := by
 rw [h.cell]
 match k, hk with
 | 0, _ => rfl
 | 1, _ => rfl
 | 2, _ => rfl
 | 3, _ => rfl
theorem isk {k : Nat} (h : k < 4) : (decide (0 ≤ (k : Int)) && decide ((k : Int) ≤ 3)) = true := by
 simp only [Bool.and_eq_true, decide_eq_true_eq]; omega
theorem Below.of_eq {a b : World} (h : a = b) : Below a.heap.size a b := h ▸ Below.refl _ _
theorem net_as (lo hi full empty err miss : Int) (hs gs cf : Value) (w : World) (f0 : 0 ≤ full) (f1 : full ≤ 10000) (e0 : 0 ≤ empty) (e1 : empty ≤ 10000) (r0 : 0 ≤ err) (r1 : err ≤ 50) (hlo : lo = max 0 (full - empty - 2 * err)) (hhi : hi = max 0 (full - empty + 2 * err)) :
  Calls Try.prog 98 #[.agg #[.int .i64 full, .int .i64 empty, hs, .int .i64 err, .int .i64 miss, gs, cf]] w fun e w' => e = .returned (.agg #[.int .i64 lo, .int .i64 hi]) ∧ Below w.heap.size w w' := by
 subst hlo hhi
 exact net_any full empty err miss hs gs cf w f0 f1 e0 e1 r0 r1
theorem bounds_B (B : Bx) {miss : Int} {hs : List Hf} (hB : boundsOf miss (fun _ => true) hs = B) (full empty err : Int) (A : Option Addr) (c : Nat) (gs : Value) (w : World) (hA : HandsAt w A hs) (hl : hs.length ≤ 1000)
  (m0 : 0 ≤ miss) (m1 : miss ≤ 20) (ht : ∀ x ∈ hs, x.taken = true) (he : ∀ x ∈ hs, x.enough = true) :
  Calls Try.prog 104 #[.agg #[.int .i64 full, .int .i64 empty, .slice A hs.length c, .int .i64 err, .int .i64 miss, gs, .func (.func 99) #[.agg #[.int .i64 full, .int .i64 empty, .slice A hs.length c]] #[]]] w fun e w' =>
   e = .returned (.agg #[.int .i64 B.l0, .int .i64 B.h0, .int .i64 B.l1, .int .i64 B.h1, .int .i64 B.l2, .int .i64 B.h2, .int .i64 B.l3, .int .i64 B.h3]) ∧ Below w.heap.size w w' := by
 subst hB
 exact bounds_hand full empty err miss A c hs gs w hA hl m0 m1 ht he
set_option maxRecDepth 100000 in
set_option maxHeartbeats 4000000 in
theorem weight_at (k : Nat) (hk : k < 4) (err miss full empty : Int) (G A : Option Addr) (d c : Nat) (gs : List Gr) (hs : List Hf) (w : World) (hG : GradesAt w G gs) (hgl : gs.length ≤ 1000) (hA : HandsAt w A hs) (hl : hs.length ≤ 1000) (he : bothErr err miss gs full empty hs = 0) (B : Bx) (hB : (boundsOf miss (fun _ => true) hs) = B) (hx : B.empty = false)
  (lo hi : Int) (hlo : lo = max 0 (full - empty - 2 * err)) (hhi : hi = max 0 (full - empty + 2 * err)) :
  Calls Try.prog 45 #[.agg #[.int .i64 err, .int .i64 miss, .slice G gs.length d], .agg #[.int .i64 full, .int .i64 empty, .slice A hs.length c], .int .i64 (k : Int)] w fun e w' => e = .returned (.tuple #[.agg #[.int .i64 (lo * bxl B k / 40), .int .i64 (hi * bxh B k / 40)], .int .i64 0]) ∧ Below w.heap.size w w' := by
 have HA := Lib.hid hA
 have HG := Lib.hid hG
 clear hA hG
 have hq : (bothErr err miss gs full empty hs != 0) = false := by simp [he]
 obtain ⟨hg0, hc0⟩ := bothErr_zero he
 obtain ⟨_, r0, r1, m0, m1, _, _⟩ := gateErr_zero hg0
 obtain ⟨_, f0, f1, e0, e1, ht, hn⟩ := cartErr_zero hc0
 have hok : B.ok := hB ▸ bounds_ok miss _ hs
 have hk0 : (0 : Int) ≤ (k : Int) := by omega
 have hk4 : (k : Int) < 4 := by omega
 obtain ⟨lb, hlb⟩ : ∃ z, z = bxl B k := ⟨_, rfl⟩
 obtain ⟨ub, hub⟩ : ∃ z, z = bxh B k := ⟨_, rfl⟩
 obtain ⟨s0, s1, s2, s3⟩ : 0 ≤ lb ∧ lb ≤ 40 ∧ 0 ≤ ub ∧ ub ≤ 40 := by rw [hlb, hub]; exact ok_at hok k
 rw [← hlb, ← hub]
 have HLB := Lib.hid hlb
 have HUB := Lib.hid hub
 have hl0 : 0 ≤ lo := by omega
 have hl1 : lo ≤ 10100 := by omega
 have hh0 : 0 ≤ hi := by omega
 have hh1 : hi ≤ 10100 := by omega
 have p0 : 0 ≤ lo * lb := Int.mul_nonneg hl0 (by omega)
 have p1 : lo * lb ≤ 10100 * 41 := Int.mul_le_mul hl1 (by omega) (by omega) (by decide)
 have p2 : 0 ≤ hi * ub := Int.mul_nonneg hh0 (by omega)
 have p3 : hi * ub ≤ 10100 * 41 := Int.mul_le_mul hh1 (by omega) (by omega) (by decide)
 have HE := Lib.hid he
 have HT := Lib.hid ht
 have HN := Lib.hid hn
 have HB := Lib.hid hB
 have HX := Lib.hid hx
 have HLO := Lib.hid hlo
 have HHI := Lib.hid hhi
 clear he hg0 hc0 ht hn hB hx hlo hhi hlb hub hok
 go_enter Try.func45, Try.ntmps45
 go_wp2_with (first
  | ((go_at_call 97); (refine (arrive_at err miss full empty G A d c gs hs _ (HG.out.up zg) hgl (HA.out.up zg) hl HE.out).mono ?_); (rintro e w2 ⟨rfl, hb2⟩); (have HBw2 : Hid (Below w.heap.size w w2) := Lib.hid (Below.trans (Below.refl _ _) (Below.trans zg (hb2.mono (by first | omega | (simp; done) | (simp; omega)))))); (have Hr2 := Lib.hid (Holds.up (by exact zp3 : Holds _ (w.heap.size + 1 + 1) 60 #[.int .i64 0, .int .i64 0]) hb2)); (obtain ⟨kr0_2, kr1_2⟩ := Hr2.out.c2); (obtain ⟨zr0_2, zr1_2⟩ := Hr2.out.f2); (have lr_2 : w.heap.size + 1 + 1 < w2.heap.size := Hr2.out.lt); (clear hb2))
  | ((go_at_call 100); (refine (isKind_any _ _).mono ?_); (rw [isk hk]); (rintro e w3 ⟨rfl, hb3⟩); (have hb3 := Below.of_eq hb3); (have HBw3 : Hid (Below w.heap.size w w3) := Lib.hid (Below.trans HBw2.out (Below.trans zg (hb3.mono (by first | omega | (simp; done) | (simp; omega)))))); (have Hr3 := Lib.hid (Holds.up (by have h := Hr2.out; exact zp3 : Holds _ (w.heap.size + 1 + 1) 60 #[.int .i64 0, .int .i64 0]) hb3)); (obtain ⟨kr0_3, kr1_3⟩ := Hr3.out.c2); (obtain ⟨zr0_3, zr1_3⟩ := Hr3.out.f2); (have lr_3 : w.heap.size + 1 + 1 < w3.heap.size := Hr3.out.lt); (have Ha3 := Lib.hid (Holds.up (by exact zp3 : Holds _ (w2.heap.size) 147 #[.int .i64 full, .int .i64 empty, .slice A hs.length c, .int .i64 err, .int .i64 miss, .slice G gs.length d, .func (.func 99) #[.agg #[.int .i64 full, .int .i64 empty, .slice A hs.length c]] #[]]) hb3)); (obtain ⟨ka0_3, ka1_3, ka2_3, ka3_3, ka4_3, ka5_3, ka6_3⟩ := Ha3.out.c7); (have la_3 : w2.heap.size < w3.heap.size := Ha3.out.lt); (clear hb3 kr0_2 kr1_2 zr0_2 zr1_2 lr_2))
  | ((go_at_call 104); (refine (bounds_B B HB.out full empty err A c (.slice G gs.length d) _ (HA.out.up (Below.trans HBw3.out zg)) hl m0 m1 HT.out HN.out).mono ?_); (rintro e w4 ⟨rfl, hb4⟩); (have HBw4 : Hid (Below w.heap.size w w4) := Lib.hid (Below.trans HBw3.out (Below.trans zg (hb4.mono (by first | omega | (simp; done) | (simp; omega)))))); (have Hr4 := Lib.hid (Holds.up (by have h := Hr3.out; exact zp3 : Holds _ (w.heap.size + 1 + 1) 60 #[.int .i64 0, .int .i64 0]) hb4)); (obtain ⟨kr0_4, kr1_4⟩ := Hr4.out.c2); (obtain ⟨zr0_4, zr1_4⟩ := Hr4.out.f2); (have lr_4 : w.heap.size + 1 + 1 < w4.heap.size := Hr4.out.lt); (have Ha4 := Lib.hid (Holds.up (by have h := Ha3.out; exact zp3 : Holds _ (w2.heap.size) 147 #[.int .i64 full, .int .i64 empty, .slice A hs.length c, .int .i64 err, .int .i64 miss, .slice G gs.length d, .func (.func 99) #[.agg #[.int .i64 full, .int .i64 empty, .slice A hs.length c]] #[]]) hb4)); (obtain ⟨ka0_4, ka1_4, ka2_4, ka3_4, ka4_4, ka5_4, ka6_4⟩ := Ha4.out.c7); (have la_4 : w2.heap.size < w4.heap.size := Ha4.out.lt); (have hr4 : w.heap.size + 1 + 1 < w4.heap.size := Hr4.out.lt); (clear hb4 kr0_3 kr1_3 ka0_3 ka1_3 ka2_3 ka3_3 ka4_3 ka5_3 ka6_3 zr0_3 zr1_3 lr_3 la_3))
  | ((go_at_call 109); (refine (empty_any B _).mono ?_); (rw [HX.out]); (rintro e w5 ⟨rfl, hb5⟩); (have HBw5 : Hid (Below w.heap.size w w5) := Lib.hid (Below.trans HBw4.out (Below.trans zg (hb5.mono (by first | omega | (simp; done) | (simp; omega)))))); (have Hr5 := Lib.hid (Holds.up (by have h := Hr4.out; exact zp3 : Holds _ (w.heap.size + 1 + 1) 60 #[.int .i64 0, .int .i64 0]) hb5)); (obtain ⟨kr0_5, kr1_5⟩ := Hr5.out.c2); (obtain ⟨zr0_5, zr1_5⟩ := Hr5.out.f2); (have lr_5 : w.heap.size + 1 + 1 < w5.heap.size := Hr5.out.lt); (have Ha5 := Lib.hid (Holds.up (by have h := Ha4.out; exact zp3 : Holds _ (w2.heap.size) 147 #[.int .i64 full, .int .i64 empty, .slice A hs.length c, .int .i64 err, .int .i64 miss, .slice G gs.length d, .func (.func 99) #[.agg #[.int .i64 full, .int .i64 empty, .slice A hs.length c]] #[]]) hb5)); (obtain ⟨ka0_5, ka1_5, ka2_5, ka3_5, ka4_5, ka5_5, ka6_5⟩ := Ha5.out.c7); (have la_5 : w2.heap.size < w5.heap.size := Ha5.out.lt); (have Hb5 := Lib.hid (Holds.up (by exact zp3 : Holds _ (w4.heap.size) 153 #[.int .i64 B.l0, .int .i64 B.h0, .int .i64 B.l1, .int .i64 B.h1, .int .i64 B.l2, .int .i64 B.h2, .int .i64 B.l3, .int .i64 B.h3]) hb5)); (obtain ⟨kb0_5, kb1_5, kb2_5, kb3_5, kb4_5, kb5_5, kb6_5, kb7_5⟩ := Hb5.out.c8); (have lb_5 : w4.heap.size < w5.heap.size := Hb5.out.lt); (clear hb5 kr0_4 kr1_4 ka0_4 ka1_4 ka2_4 ka3_4 ka4_4 ka5_4 ka6_4 zr0_4 zr1_4 lr_4 la_4))
  | ((go_at_call 98); (refine (net_as lo hi full empty err miss _ _ _ _ f0 f1 e0 e1 r0 r1 HLO.out HHI.out).mono ?_); (rintro e w6 ⟨rfl, hb6⟩); (have HBw6 : Hid (Below w.heap.size w w6) := Lib.hid (Below.trans HBw5.out (Below.trans zg (hb6.mono (by first | omega | (simp; done) | (simp; omega)))))); (have Hr6 := Lib.hid (Holds.up (by have h := Hr5.out; exact zp3 : Holds _ (w.heap.size + 1 + 1) 60 #[.int .i64 0, .int .i64 0]) hb6)); (obtain ⟨kr0_6, kr1_6⟩ := Hr6.out.c2); (obtain ⟨zr0_6, zr1_6⟩ := Hr6.out.f2); (have lr_6 : w.heap.size + 1 + 1 < w6.heap.size := Hr6.out.lt); (have Ha6 := Lib.hid (Holds.up (by have h := Ha5.out; exact zp3 : Holds _ (w2.heap.size) 147 #[.int .i64 full, .int .i64 empty, .slice A hs.length c, .int .i64 err, .int .i64 miss, .slice G gs.length d, .func (.func 99) #[.agg #[.int .i64 full, .int .i64 empty, .slice A hs.length c]] #[]]) hb6)); (obtain ⟨ka0_6, ka1_6, ka2_6, ka3_6, ka4_6, ka5_6, ka6_6⟩ := Ha6.out.c7); (have la_6 : w2.heap.size < w6.heap.size := Ha6.out.lt); (have Hb6 := Lib.hid (Holds.up (by have h := Hb5.out; exact zp3 : Holds _ (w4.heap.size) 153 #[.int .i64 B.l0, .int .i64 B.h0, .int .i64 B.l1, .int .i64 B.h1, .int .i64 B.l2, .int .i64 B.h2, .int .i64 B.l3, .int .i64 B.h3]) hb6)); (obtain ⟨kb0_6, kb1_6, kb2_6, kb3_6, kb4_6, kb5_6, kb6_6, kb7_6⟩ := Hb6.out.c8); (have lb_6 : w4.heap.size < w6.heap.size := Hb6.out.lt); (have hr6 : w.heap.size + 1 + 1 < w6.heap.size := Hr6.out.lt); (clear hb6 kr0_5 kr1_5 ka0_5 ka1_5 ka2_5 ka3_5 ka4_5 ka5_5 ka6_5 kb0_5 kb1_5 kb2_5 kb3_5 kb4_5 kb5_5 kb6_5 kb7_5 zr0_5 zr1_5 lr_5 la_5 lb_5)))
 rename_i Kc hKc
 have HSL := Lib.hid (show slotsOf [some 33, some 34, some 35, some 36, some 37, some 38, some 39, some 40, some 41, some 42, some 43, some 44, some 45, some 46, some 47, some 48, some 49, none, some 7] = [33, 34, 35, 36, 37, 38, 39, 40, 41, 42, 43, 44, 45, 46, 47, 48, 49, 7] from rfl)
 refine wp_region_partsG (by kernel_rfl) [some 33, some 34, some 35, some 36, some 37, some 38, some 39, some 40, some 41, some 42, some 43, some 44, some 45, some 46, some 47, some 48, some 49, none, some 7] (fun jq xq w' => match jq with
  | 0 => xq 33 = .pointer (some ⟨w6.heap.size, 0, none⟩)
  | 1 => xq 34 = .int .i64 lo
  | 2 => xq 35 = .int .i64 (k : Int)
  | 3 => xq 36 = .pointer (some ⟨w4.heap.size, k * 2, none⟩)
  | 4 => xq 37 = .pointer (some ⟨w4.heap.size, k * 2, none⟩)
  | 5 => xq 38 = .int .i64 lb
  | 6 => xq 39 = .int .i64 (lo * lb)
  | 7 => xq 40 = .int .i64 (lo * lb / 40)
  | 8 => xq 41 = .pointer (some ⟨w6.heap.size, 1, none⟩)
  | 9 => xq 42 = .int .i64 hi
  | 10 => xq 43 = .int .i64 (k : Int)
  | 11 => xq 44 = .pointer (some ⟨w4.heap.size, k * 2, none⟩)
  | 12 => xq 45 = .pointer (some ⟨w4.heap.size, k * 2 + 1, none⟩)
  | 13 => xq 46 = .int .i64 ub
  | 14 => xq 47 = .int .i64 (hi * ub)
  | 15 => xq 48 = .int .i64 (hi * ub / 40)
  | 16 => xq 49 = .agg #[.int .i64 (lo * lb / 40), .int .i64 (hi * ub / 40)]
  | 17 => Holds w' (w.heap.size + 1 + 1) 60 #[.int .i64 (lo * lb / 40), .int .i64 (hi * ub / 40)]
  | 18 => xq 7 = .int .i64 0
  | 19 => Holds w' (w6.heap.size) 60 #[.int .i64 lo, .int .i64 hi]
  | 20 => Holds w' w4.heap.size 153 #[.int .i64 B.l0, .int .i64 B.h0, .int .i64 B.l1, .int .i64 B.h1, .int .i64 B.l2, .int .i64 B.h2, .int .i64 B.l3, .int .i64 B.h3]
  | 21 => Holds w' (w.heap.size + 1 + 1) 60 #[.int .i64 0, .int .i64 0]
  | _ => True) [[33], [34], [35], [36], [37], [38], [39], [40], [41], [42], [43], [44], [45], [46], [47], [48], [49], [], [7], [], [], []] [(17, 21)] (Below w.heap.size w) (by kernel_rfl) ?_ ?_ (fun w' w'' hb h => h.trans (hb.mono h.size)) ((Below.trans HBw6.out zg)) ?_ ?_ ?_
 ·intro jq xq xq' wq h hv
  match jq, h, hv with
  | 0, h, hv => show xq' 33 = .pointer (some ⟨w6.heap.size, 0, none⟩); rw [← h 33 (by decide)]; exact hv
  | 1, h, hv => show xq' 34 = .int .i64 lo; rw [← h 34 (by decide)]; exact hv
  | 2, h, hv => show xq' 35 = .int .i64 (k : Int); rw [← h 35 (by decide)]; exact hv
  | 3, h, hv => show xq' 36 = .pointer (some ⟨w4.heap.size, k * 2, none⟩); rw [← h 36 (by decide)]; exact hv
  | 4, h, hv => show xq' 37 = .pointer (some ⟨w4.heap.size, k * 2, none⟩); rw [← h 37 (by decide)]; exact hv
  | 5, h, hv => show xq' 38 = .int .i64 lb; rw [← h 38 (by decide)]; exact hv
  | 6, h, hv => show xq' 39 = .int .i64 (lo * lb); rw [← h 39 (by decide)]; exact hv
  | 7, h, hv => show xq' 40 = .int .i64 (lo * lb / 40); rw [← h 40 (by decide)]; exact hv
  | 8, h, hv => show xq' 41 = .pointer (some ⟨w6.heap.size, 1, none⟩); rw [← h 41 (by decide)]; exact hv
  | 9, h, hv => show xq' 42 = .int .i64 hi; rw [← h 42 (by decide)]; exact hv
  | 10, h, hv => show xq' 43 = .int .i64 (k : Int); rw [← h 43 (by decide)]; exact hv
  | 11, h, hv => show xq' 44 = .pointer (some ⟨w4.heap.size, k * 2, none⟩); rw [← h 44 (by decide)]; exact hv
  | 12, h, hv => show xq' 45 = .pointer (some ⟨w4.heap.size, k * 2 + 1, none⟩); rw [← h 45 (by decide)]; exact hv
  | 13, h, hv => show xq' 46 = .int .i64 ub; rw [← h 46 (by decide)]; exact hv
  | 14, h, hv => show xq' 47 = .int .i64 (hi * ub); rw [← h 47 (by decide)]; exact hv
  | 15, h, hv => show xq' 48 = .int .i64 (hi * ub / 40); rw [← h 48 (by decide)]; exact hv
  | 16, h, hv => show xq' 49 = .agg #[.int .i64 (lo * lb / 40), .int .i64 (hi * ub / 40)]; rw [← h 49 (by decide)]; exact hv
  | 17, h, hv => exact hv
  | 18, h, hv => show xq' 7 = .int .i64 0; rw [← h 7 (by decide)]; exact hv
  | 19, h, hv => exact hv
  | 20, h, hv => exact hv
  | 21, h, hv => exact hv
  | _ + 22, _, _ => trivial
 ·intro jq xq wq w' hb' hv
  match jq, hv with
  | 0, hv => exact hv
  | 1, hv => exact hv
  | 2, hv => exact hv
  | 3, hv => exact hv
  | 4, hv => exact hv
  | 5, hv => exact hv
  | 6, hv => exact hv
  | 7, hv => exact hv
  | 8, hv => exact hv
  | 9, hv => exact hv
  | 10, hv => exact hv
  | 11, hv => exact hv
  | 12, hv => exact hv
  | 13, hv => exact hv
  | 14, hv => exact hv
  | 15, hv => exact hv
  | 16, hv => exact hv
  | 17, h0 => exact h0.up hb'
  | 18, hv => exact hv
  | 19, h0 => exact h0.up hb'
  | 20, h0 => exact h0.up hb'
  | 21, h0 => exact h0.up hb'
  | _ + 22, _ => trivial
 ·intro jq hj
  match jq, hj with
  | 0, hj => exact absurd hj (by decide)
  | 1, hj => exact absurd hj (by decide)
  | 2, hj => exact absurd hj (by decide)
  | 3, hj => exact absurd hj (by decide)
  | 4, hj => exact absurd hj (by decide)
  | 5, hj => exact absurd hj (by decide)
  | 6, hj => exact absurd hj (by decide)
  | 7, hj => exact absurd hj (by decide)
  | 8, hj => exact absurd hj (by decide)
  | 9, hj => exact absurd hj (by decide)
  | 10, hj => exact absurd hj (by decide)
  | 11, hj => exact absurd hj (by decide)
  | 12, hj => exact absurd hj (by decide)
  | 13, hj => exact absurd hj (by decide)
  | 14, hj => exact absurd hj (by decide)
  | 15, hj => exact absurd hj (by decide)
  | 16, hj => exact absurd hj (by decide)
  | 17, hj => exact absurd hj (by decide)
  | 18, hj => exact absurd hj (by decide)
  | 19, _ => exact Holds.new _ _ _
  | 20, _ => exact Hb6.out.alloc _
  | 21, _ => exact Hr6.out.alloc _
  | _ + 22, _ => trivial
 ·refine ⟨?_, ?_, ?_, ?_, ?_, ?_, ?_, ?_, ?_, ?_, ?_, ?_, ?_, ?_, ?_, ?_, ?_, ?_, ?_, trivial⟩
  ·intro xq w1 hb1 hx K hK0
   have hK := fun v w' hb => hK0 v w' (.inl hb)
   clear hx hKc hK0
   simp only [frameOf, fill, setSlot, sg, Nat.reduceBEq, if_true, if_false, Nat.reduceAdd, Nat.reduceEqDiff, HSL.out] at hK ⊢
   go_wp2_with (fail)
   exact hK _ _ (Below.refl _ _) rfl
  ·intro xq w1 hb1 hx K hK0
   have hK := fun v w' hb => hK0 v w' (.inl hb)
   have e33 : xq 33 = .pointer (some ⟨w6.heap.size, 0, none⟩) := hx 0 (by rfl) (by rfl)
   have fin_0 : Holds w1 (w6.heap.size) 60 #[.int .i64 lo, .int .i64 hi] := hx 19 (by rfl) (by rfl)
   clear hx hKc hK0
   obtain ⟨q0, q1⟩ := fin_0.c2
   simp only [frameOf, fill, setSlot, sg, Nat.reduceBEq, if_true, if_false, Nat.reduceAdd, Nat.reduceEqDiff, HSL.out] at hK ⊢
   simp only [e33] at hK ⊢
   clear e33
   go_wp2_with (fail)
   exact hK _ _ (Below.refl _ _) rfl
  ·intro xq w1 hb1 hx K hK0
   have hK := fun v w' hb => hK0 v w' (.inl hb)
   clear hx hKc hK0
   simp only [frameOf, fill, setSlot, sg, Nat.reduceBEq, if_true, if_false, Nat.reduceAdd, Nat.reduceEqDiff, HSL.out] at hK ⊢
   go_wp2_with (fail)
   exact hK _ _ (Below.refl _ _) rfl
  ·intro xq w1 hb1 hx K hK0
   have hK := fun v w' hb => hK0 v w' (.inl hb)
   have e35 : xq 35 = .int .i64 (k : Int) := hx 2 (by rfl) (by rfl)
   clear hx hKc hK0
   simp only [frameOf, fill, setSlot, sg, Nat.reduceBEq, if_true, if_false, Nat.reduceAdd, Nat.reduceEqDiff, HSL.out] at hK ⊢
   simp only [e35] at hK ⊢
   clear e35
   go_wp2_with (fail)
   exact hK _ _ (Below.refl _ _) rfl
  ·intro xq w1 hb1 hx K hK0
   have hK := fun v w' hb => hK0 v w' (.inl hb)
   have e36 : xq 36 = .pointer (some ⟨w4.heap.size, k * 2, none⟩) := hx 3 (by rfl) (by rfl)
   clear hx hKc hK0
   simp only [frameOf, fill, setSlot, sg, Nat.reduceBEq, if_true, if_false, Nat.reduceAdd, Nat.reduceEqDiff, HSL.out] at hK ⊢
   simp only [e36] at hK ⊢
   clear e36
   go_wp2_with (fail)
   exact hK _ _ (Below.refl _ _) rfl
  ·intro xq w1 hb1 hx K hK0
   have hK := fun v w' hb => hK0 v w' (.inl hb)
   have e37 : xq 37 = .pointer (some ⟨w4.heap.size, k * 2, none⟩) := hx 4 (by rfl) (by rfl)
   have fib_0 : Holds w1 w4.heap.size 153 #[.int .i64 B.l0, .int .i64 B.h0, .int .i64 B.l1, .int .i64 B.h1, .int .i64 B.l2, .int .i64 B.h2, .int .i64 B.l3, .int .i64 B.h3] := hx 20 (by rfl) (by rfl)
   clear hx hKc hK0
   have q : w1.cell? ⟨w4.heap.size, k * 2, none⟩ = some (.int .i64 lb) := by rw [HLB.out]; exact box_lo fib_0 hk
   simp only [frameOf, fill, setSlot, sg, Nat.reduceBEq, if_true, if_false, Nat.reduceAdd, Nat.reduceEqDiff, HSL.out] at hK ⊢
   simp only [e37] at hK ⊢
   clear e37
   go_wp2_with (fail)
   exact hK _ _ (Below.refl _ _) rfl
  ·intro xq w1 hb1 hx K hK0
   have hK := fun v w' hb => hK0 v w' (.inl hb)
   have e34 : xq 34 = .int .i64 lo := hx 1 (by rfl) (by rfl)
   have e38 : xq 38 = .int .i64 lb := hx 5 (by rfl) (by rfl)
   clear hx hKc hK0
   simp only [frameOf, fill, setSlot, sg, Nat.reduceBEq, if_true, if_false, Nat.reduceAdd, Nat.reduceEqDiff, HSL.out] at hK ⊢
   simp only [e34, e38] at hK ⊢
   clear e34 e38
   go_wp2_with (fail)
   exact hK _ _ (Below.refl _ _) rfl
  ·intro xq w1 hb1 hx K hK0
   have hK := fun v w' hb => hK0 v w' (.inl hb)
   have e39 : xq 39 = .int .i64 (lo * lb) := hx 6 (by rfl) (by rfl)
   clear hx hKc hK0
   simp only [frameOf, fill, setSlot, sg, Nat.reduceBEq, if_true, if_false, Nat.reduceAdd, Nat.reduceEqDiff, HSL.out] at hK ⊢
   simp only [e39] at hK ⊢
   clear e39
   go_wp2_with (fail)
   exact hK _ _ (Below.refl _ _) rfl
  ·intro xq w1 hb1 hx K hK0
   have hK := fun v w' hb => hK0 v w' (.inl hb)
   clear hx hKc hK0
   simp only [frameOf, fill, setSlot, sg, Nat.reduceBEq, if_true, if_false, Nat.reduceAdd, Nat.reduceEqDiff, HSL.out] at hK ⊢
   go_wp2_with (fail)
   exact hK _ _ (Below.refl _ _) rfl
  ·intro xq w1 hb1 hx K hK0
   have hK := fun v w' hb => hK0 v w' (.inl hb)
   have e41 : xq 41 = .pointer (some ⟨w6.heap.size, 1, none⟩) := hx 8 (by rfl) (by rfl)
   have fin_0 : Holds w1 (w6.heap.size) 60 #[.int .i64 lo, .int .i64 hi] := hx 19 (by rfl) (by rfl)
   clear hx hKc hK0
   obtain ⟨q0, q1⟩ := fin_0.c2
   simp only [frameOf, fill, setSlot, sg, Nat.reduceBEq, if_true, if_false, Nat.reduceAdd, Nat.reduceEqDiff, HSL.out] at hK ⊢
   simp only [e41] at hK ⊢
   clear e41
   go_wp2_with (fail)
   exact hK _ _ (Below.refl _ _) rfl
  ·intro xq w1 hb1 hx K hK0
   have hK := fun v w' hb => hK0 v w' (.inl hb)
   clear hx hKc hK0
   simp only [frameOf, fill, setSlot, sg, Nat.reduceBEq, if_true, if_false, Nat.reduceAdd, Nat.reduceEqDiff, HSL.out] at hK ⊢
   go_wp2_with (fail)
   exact hK _ _ (Below.refl _ _) rfl
  ·intro xq w1 hb1 hx K hK0
   have hK := fun v w' hb => hK0 v w' (.inl hb)
   have e43 : xq 43 = .int .i64 (k : Int) := hx 10 (by rfl) (by rfl)
   clear hx hKc hK0
   simp only [frameOf, fill, setSlot, sg, Nat.reduceBEq, if_true, if_false, Nat.reduceAdd, Nat.reduceEqDiff, HSL.out] at hK ⊢
   simp only [e43] at hK ⊢
   clear e43
   go_wp2_with (fail)
   exact hK _ _ (Below.refl _ _) rfl
  ·intro xq w1 hb1 hx K hK0
   have hK := fun v w' hb => hK0 v w' (.inl hb)
   have e44 : xq 44 = .pointer (some ⟨w4.heap.size, k * 2, none⟩) := hx 11 (by rfl) (by rfl)
   clear hx hKc hK0
   simp only [frameOf, fill, setSlot, sg, Nat.reduceBEq, if_true, if_false, Nat.reduceAdd, Nat.reduceEqDiff, HSL.out] at hK ⊢
   simp only [e44] at hK ⊢
   clear e44
   go_wp2_with (fail)
   exact hK _ _ (Below.refl _ _) rfl
  ·intro xq w1 hb1 hx K hK0
   have hK := fun v w' hb => hK0 v w' (.inl hb)
   have e45 : xq 45 = .pointer (some ⟨w4.heap.size, k * 2 + 1, none⟩) := hx 12 (by rfl) (by rfl)
   have fib_0 : Holds w1 w4.heap.size 153 #[.int .i64 B.l0, .int .i64 B.h0, .int .i64 B.l1, .int .i64 B.h1, .int .i64 B.l2, .int .i64 B.h2, .int .i64 B.l3, .int .i64 B.h3] := hx 20 (by rfl) (by rfl)
   clear hx hKc hK0
   have q : w1.cell? ⟨w4.heap.size, k * 2 + 1, none⟩ = some (.int .i64 ub) := by rw [HUB.out]; exact box_hi fib_0 hk
   simp only [frameOf, fill, setSlot, sg, Nat.reduceBEq, if_true, if_false, Nat.reduceAdd, Nat.reduceEqDiff, HSL.out] at hK ⊢
   simp only [e45] at hK ⊢
   clear e45
   go_wp2_with (fail)
   exact hK _ _ (Below.refl _ _) rfl
  ·intro xq w1 hb1 hx K hK0
   have hK := fun v w' hb => hK0 v w' (.inl hb)
   have e42 : xq 42 = .int .i64 hi := hx 9 (by rfl) (by rfl)
   have e46 : xq 46 = .int .i64 ub := hx 13 (by rfl) (by rfl)
   clear hx hKc hK0
   simp only [frameOf, fill, setSlot, sg, Nat.reduceBEq, if_true, if_false, Nat.reduceAdd, Nat.reduceEqDiff, HSL.out] at hK ⊢
   simp only [e42, e46] at hK ⊢
   clear e42 e46
   go_wp2_with (fail)
   exact hK _ _ (Below.refl _ _) rfl
  ·intro xq w1 hb1 hx K hK0
   have hK := fun v w' hb => hK0 v w' (.inl hb)
   have e47 : xq 47 = .int .i64 (hi * ub) := hx 14 (by rfl) (by rfl)
   clear hx hKc hK0
   simp only [frameOf, fill, setSlot, sg, Nat.reduceBEq, if_true, if_false, Nat.reduceAdd, Nat.reduceEqDiff, HSL.out] at hK ⊢
   simp only [e47] at hK ⊢
   clear e47
   go_wp2_with (fail)
   exact hK _ _ (Below.refl _ _) rfl
  ·intro xq w1 hb1 hx K hK0
   have hK := fun v w' hb => hK0 v w' (.inl hb)
   have e40 : xq 40 = .int .i64 (lo * lb / 40) := hx 7 (by rfl) (by rfl)
   have e48 : xq 48 = .int .i64 (hi * ub / 40) := hx 15 (by rfl) (by rfl)
   clear hx hKc hK0
   simp only [frameOf, fill, setSlot, sg, Nat.reduceBEq, if_true, if_false, Nat.reduceAdd, Nat.reduceEqDiff, HSL.out] at hK ⊢
   simp only [e40, e48] at hK ⊢
   clear e40 e48
   go_wp2_with (fail)
   exact hK _ _ (Below.refl _ _) rfl
  ·intro xq w1 hb1 hx K hK0
   have hK := fun v w' hb => hK0 v w' (.inr hb)
   have e49 : xq 49 = .agg #[.int .i64 (lo * lb / 40), .int .i64 (hi * ub / 40)] := hx 16 (by rfl) (by rfl)
   have fir_0 : Holds w1 (w.heap.size + 1 + 1) 60 #[.int .i64 0, .int .i64 0] := hx 21 (by rfl) (by rfl)
   clear hx hKc hK0
   obtain ⟨q0, q1⟩ := fir_0.c2
   obtain ⟨y0, y1⟩ := fir_0.f2
   simp only [frameOf, fill, setSlot, sg, Nat.reduceBEq, if_true, if_false, Nat.reduceAdd, Nat.reduceEqDiff, HSL.out] at hK ⊢
   have E49 := Lib.hid e49
   simp only [e49] at hK ⊢
   clear e49
   go_wp2_with (fail)
   refine hK undef _ ⟨zg, ?_⟩ (by have h := fir_0; (repeat first | (with_reducible first | assumption | apply Holds.set8 | apply Holds.set7 | apply Holds.set2 | apply Holds.set4 | apply Holds.putL | ((refine Holds.new' _ _ ?_); (simp; done)) | refine Holds.alloc ?_ _ | refine Holds.drew ?_ | refine Holds.far ?_ (by simp only [ne_eq]; omega) _) | rfl))
   intro jq xq hd hne hv
   match jq, hd, hne, hv with
   | 0, _, _, hv => exact hv
   | 1, _, _, hv => exact hv
   | 2, _, _, hv => exact hv
   | 3, _, _, hv => exact hv
   | 4, _, _, hv => exact hv
   | 5, _, _, hv => exact hv
   | 6, _, _, hv => exact hv
   | 7, _, _, hv => exact hv
   | 8, _, _, hv => exact hv
   | 9, _, _, hv => exact hv
   | 10, _, _, hv => exact hv
   | 11, _, _, hv => exact hv
   | 12, _, _, hv => exact hv
   | 13, _, _, hv => exact hv
   | 14, _, _, hv => exact hv
   | 15, _, _, hv => exact hv
   | 16, _, _, hv => exact hv
   | 17, _, hne, _ => exact absurd rfl hne
   | 18, _, _, hv => exact hv
   | 19, _, _, hv => have h : Holds _ _ _ _ := hv; show Holds _ _ _ _; (repeat first | (with_reducible first | assumption | apply Holds.set8 | apply Holds.set7 | apply Holds.set2 | apply Holds.set4 | apply Holds.putL | ((refine Holds.new' _ _ ?_); (simp; done)) | refine Holds.alloc ?_ _ | refine Holds.drew ?_ | refine Holds.far ?_ (by simp only [ne_eq]; omega) _) | rfl)
   | 20, _, _, hv => have h : Holds _ _ _ _ := hv; show Holds _ _ _ _; (repeat first | (with_reducible first | assumption | apply Holds.set8 | apply Holds.set7 | apply Holds.set2 | apply Holds.set4 | apply Holds.putL | ((refine Holds.new' _ _ ?_); (simp; done)) | refine Holds.alloc ?_ _ | refine Holds.drew ?_ | refine Holds.far ?_ (by simp only [ne_eq]; omega) _) | rfl)
   | 21, hd, _, _ => exact absurd hd (by decide)
   | _ + 22, _, _, _ => trivial
  ·intro xq w1 hb1 hx K hK0
   have hK := fun v w' hb => hK0 v w' (.inl hb)
   clear hx hKc hK0
   simp only [frameOf, fill, setSlot, sg, Nat.reduceBEq, if_true, if_false, Nat.reduceAdd, Nat.reduceEqDiff, HSL.out] at hK ⊢
   go_wp2_with (fail)
   exact hK _ _ (Below.refl _ _) rfl
 ·intro xq w1 hb1 hx
  have e33 : xq 33 = .pointer (some ⟨w6.heap.size, 0, none⟩) := hx 0 (by decide)
  have e34 : xq 34 = .int .i64 lo := hx 1 (by decide)
  have e35 : xq 35 = .int .i64 (k : Int) := hx 2 (by decide)
  have e36 : xq 36 = .pointer (some ⟨w4.heap.size, k * 2, none⟩) := hx 3 (by decide)
  have e37 : xq 37 = .pointer (some ⟨w4.heap.size, k * 2, none⟩) := hx 4 (by decide)
  have e38 : xq 38 = .int .i64 lb := hx 5 (by decide)
  have e39 : xq 39 = .int .i64 (lo * lb) := hx 6 (by decide)
  have e40 : xq 40 = .int .i64 (lo * lb / 40) := hx 7 (by decide)
  have e41 : xq 41 = .pointer (some ⟨w6.heap.size, 1, none⟩) := hx 8 (by decide)
  have e42 : xq 42 = .int .i64 hi := hx 9 (by decide)
  have e43 : xq 43 = .int .i64 (k : Int) := hx 10 (by decide)
  have e44 : xq 44 = .pointer (some ⟨w4.heap.size, k * 2, none⟩) := hx 11 (by decide)
  have e45 : xq 45 = .pointer (some ⟨w4.heap.size, k * 2 + 1, none⟩) := hx 12 (by decide)
  have e46 : xq 46 = .int .i64 ub := hx 13 (by decide)
  have e47 : xq 47 = .int .i64 (hi * ub) := hx 14 (by decide)
  have e48 : xq 48 = .int .i64 (hi * ub / 40) := hx 15 (by decide)
  have e49 : xq 49 = .agg #[.int .i64 (lo * lb / 40), .int .i64 (hi * ub / 40)] := hx 16 (by decide)
  have fn17_0 : Holds w1 (w.heap.size + 1 + 1) 60 #[.int .i64 (lo * lb / 40), .int .i64 (hi * ub / 40)] := hx 17 (by decide)
  have e7 : xq 7 = .int .i64 0 := hx 18 (by decide)
  clear hx
  simp only [frameOf, fill, setSlot, sg, Nat.reduceBEq, if_true, if_false, Nat.reduceAdd, Nat.reduceEqDiff, HSL.out]
  simp only [e33, e34, e35, e36, e37, e38, e39, e40, e41, e42, e43, e44, e45, e46, e47, e48, e49, e7]
  clear e33 e34 e35 e36 e37 e38 e39 e40 e41 e42 e43 e44 e45 e46 e47 e48 e49 e7
  refine hKc _ _ ?_
  go_wp2_with fail
  exact ret_cell2 (t := 60) rfl rfl rfl fn17_0 Try.underlying60 rfl (by kernel_rfl) rfl ⟨rfl, hb1⟩
end Go.Proofs.Ytifffonoipapgaa
