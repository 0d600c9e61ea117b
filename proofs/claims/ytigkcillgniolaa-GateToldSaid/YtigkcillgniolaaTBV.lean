
import Derived.Test.YtigkcillgniolaaTAA
import Derived.Test.YtigkcillgniolaaTAC
import Derived.Test.YtigkcillgniolaaTBF
import Derived.Test.YtigkcillgniolaaTBR
set_option linter.unusedSimpArgs false
set_option linter.unusedVariables false
namespace Go.Proofs.Ytigkcillgniolaa
open Go.RowKit
set_option maxRecDepth 100000 in
set_option maxHeartbeats 4000000 in
theorem right_any (m0 m1 m2 m3 : Int) (hm : Mix4 m0 m1 m2 m3) (w : World) :
  Calls Try.prog 65 #[.agg #[.int .i64 m0, .int .i64 m1, .int .i64 m2, .int .i64 m3]] w fun e w' => e = .returned (.bool true) ∧ Below w.heap.size w w' := by
 obtain ⟨p0, p1, p2, p3, hs⟩ := hm
 have b0 : m0 ≤ 40 := by omega
 have b1 : m1 ≤ 40 := by omega
 have b2 : m2 ≤ 40 := by omega
 have b3 : m3 ≤ 40 := by omega
 have hsum : (m0 + m1 + m2 + m3 == 40) = true := beq_iff_eq.2 hs
 have ix0 : ∀ w : World, (Instr.index 28 (.agg #[.int .i64 m0, .int .i64 m1, .int .i64 m2, .int .i64 m3]) (.int .i64 0)).run Try.prog w = .ok (.int .i64 m0) w := fun _ => by kernel_rfl
 have ix1 : ∀ w : World, (Instr.index 28 (.agg #[.int .i64 m0, .int .i64 m1, .int .i64 m2, .int .i64 m3]) (.int .i64 1)).run Try.prog w = .ok (.int .i64 m1) w := fun _ => by kernel_rfl
 have ix2 : ∀ w : World, (Instr.index 28 (.agg #[.int .i64 m0, .int .i64 m1, .int .i64 m2, .int .i64 m3]) (.int .i64 2)).run Try.prog w = .ok (.int .i64 m2) w := fun _ => by kernel_rfl
 have ix3 : ∀ w : World, (Instr.index 28 (.agg #[.int .i64 m0, .int .i64 m1, .int .i64 m2, .int .i64 m3]) (.int .i64 3)).run Try.prog w = .ok (.int .i64 m3) w := fun _ => by kernel_rfl
 clear hs
 go_enter Try.func65, Try.ntmps65
 go_wp2_with fail
 (refine wp_loop_rounds 5 ?_; repeat any_goals (rw [rounds_succ]; go_wp2))
 go_ret
 exact ⟨rfl, zg⟩
def kindMix (k : Nat) (p a b : Int) : Nat → Int := fun j => gat p a b (40 - p - a - b) ((j + 4 - k) % 4)
def kindFit (miss : Int) (hs : List Hf) (k : Nat) (p a b : Int) : Bool := hs.all (fitH miss (kindMix k p a b 0) (kindMix k p a b 1) (kindMix k p a b 2) (kindMix k p a b 3))
def SomePost (miss : Int) (hs : List Hf) (k : Nat) (p : Int) (w : World) (e : Ending) (w' : World) : Prop :=
 ∃ r : Bool, e = .returned (.bool r) ∧ (r = true → (0 ≤ p ∧ p ≤ 40) ∧ ∃ a b : Int, 0 ≤ a ∧ 0 ≤ b ∧ a + b ≤ 40 - p ∧ kindFit miss hs k p a b = true) ∧ (r = false → 0 ≤ p → p ≤ 40 → ∀ a b : Int, 0 ≤ a → 0 ≤ b → a + b ≤ 40 - p → kindFit miss hs k p a b = false) ∧ Below w.heap.size w w'
set_option maxRecDepth 100000 in
set_option maxHeartbeats 4000000 in
theorem some_0 (err miss : Int) (G : Option Addr) (gl d : Nat) (A : Option Addr) (c : Nat) (hs : List Hf) (p : Int) (pb : -1000 ≤ p ∧ p ≤ 1000) (i0 : 0 ≤ miss) (i1 : miss ≤ 20) (w : World) (hA : HandsAt w A hs) (hl : hs.length ≤ 1000) (ht : ∀ x ∈ hs, x.taken = true) :
  Calls Try.prog 68 #[.agg #[.int .i64 err, .int .i64 miss, .slice G gl d], .slice A hs.length c, .int .i64 0, .int .i64 p] w (SomePost miss hs 0 p w) := by
 have HA := Lib.hid hA
 have HT := Lib.hid ht
 clear hA ht
 by_cases hp : 0 ≤ p ∧ p ≤ 40
 ·obtain ⟨hp0, hp1⟩ := hp
  go_enter Try.func68, Try.ntmps68
  go_wp2_with fail
  go_loopw [9] (fun v9 wr => ∃ a : Int, v9 = .int .i64 a ∧ 0 ≤ a ∧ a ≤ 41 - p ∧ Hid (∀ a' b' : Int, 0 ≤ a' → 0 ≤ b' → a' < a → a' + b' ≤ 40 - p → kindFit miss hs 0 p a' b' = false) ∧ Below w.heap.size w wr ∧ Holds wr w.heap.size 24 #[.int .i64 err, .int .i64 miss, .slice G gl d]) (fun v9 _ => (41 - p - intOf v9).toNat)
  case atStart => exact ⟨0, rfl, by omega, by omega, Lib.hid (fun _ _ _ _ _ _ => by omega), zg, zp4⟩
  case round =>
   obtain ⟨a, rfl, ha0, ha1, hno, hB, hg⟩ := hrel
   have HNO := Lib.hid hno.out
   clear hno
   have HB := Lib.hid hB
   have Hg := Lib.hid hg
   have lg := hg.lt
   clear hB hg
   by_cases hla : a ≤ 40 - p
   ·go_wp2_with fail
    go_loopw [10] (fun v10 wr => ∃ b : Int, v10 = .int .i64 b ∧ 0 ≤ b ∧ b ≤ 41 - p - a ∧ Hid (∀ b' : Int, 0 ≤ b' → b' < b → a + b' ≤ 40 - p → kindFit miss hs 0 p a b' = false) ∧ Below w.heap.size w wr ∧ Holds wr w.heap.size 24 #[.int .i64 err, .int .i64 miss, .slice G gl d]) (fun v10 _ => (41 - p - a - intOf v10).toNat)
    case atStart => exact ⟨0, rfl, by omega, by omega, Lib.hid (fun _ _ _ _ => by omega), HB.out, Hg.out⟩
    case round =>
     clear HB Hg lg
     obtain ⟨b, rfl, hb0, hb1, hnb, hB, hg⟩ := hrel
     have HNB := Lib.hid hnb.out
     clear hnb
     have HB := Lib.hid hB
     have Hg := Lib.hid hg
     have lg := hg.lt
     obtain ⟨kg0, kg1, kg2⟩ := hg.c3
     clear hB hg
     by_cases hlb : a + b ≤ 40 - p
     ·go_wp2_with fail
      refine (fits_any err miss G gl d A c hs (p) (a) (b) (40 - p - a - b) (by omega) (by omega) (by omega) (by omega) i0 i1 _ (HA.out.up (HB.out.trans zg)) hl HT.out).mono ?_
      rw [show hs.all (fitH miss (p) (a) (b) (40 - p - a - b)) = kindFit miss hs 0 p a b from rfl]
      rintro e wf ⟨rfl, hbf⟩
      have HBf : Hid (Below w.heap.size w wf) := Lib.hid (HB.out.trans (Below.trans zg (hbf.mono (by have := HB.out.size; simp; omega))))
      have Hgf := Lib.hid (Holds.up (by have h := Hg.out; exact zp4 : Holds _ w.heap.size 24 #[.int .i64 err, .int .i64 miss, .slice G gl d]) hbf)
      clear hbf kg0 kg1 kg2
      cases hf : kindFit miss hs 0 p a b with
      | true =>
       have HF := Lib.hid hf
       clear hf
       go_wp2_with fail
       go_ret
       exact ⟨true, rfl, fun _ => ⟨⟨hp0, hp1⟩, a, b, ha0, hb0, hlb, HF.out⟩, fun h => (by cases h), HBf.out⟩
      | false =>
       have HF := Lib.hid hf
       clear hf
       go_wp2_with fail
       go_roundw
       case rel =>
        refine ⟨b + 1, rfl, by omega, by omega, Lib.hid ?_, HBf.out, Hgf.out⟩
        intro b' h0 h1 h2
        by_cases hbb : b' = b
        ·rw [hbb]; exact HF.out
        ·exact HNB.out b' h0 (by omega) h2
       case measure => simp [intOf]; omega
     ·go_wp2_with fail
      go_roundw
      case rel =>
       refine ⟨a + 1, rfl, by omega, by omega, Lib.hid ?_, HB.out, Hg.out⟩
       intro a' b' h0 h1 h2 h3
       by_cases haa : a' = a
       ·subst haa; exact HNB.out b' h1 (by omega) h3
       ·exact HNO.out a' b' h0 h1 (by omega) h3
      case measure => simp [intOf]; omega
   ·go_wp2_with fail
    go_ret
    exact ⟨false, rfl, fun h => (by cases h), fun _ _ _ a' b' h0 h1 h2 => HNO.out a' b' h0 h1 (by omega) h2, HB.out⟩
 ·by_cases hp0 : 0 ≤ p
  ·have hp1 : 40 < p := by omega
   clear hp
   go_enter Try.func68, Try.ntmps68
   go_wp2_with fail
   go_ret
   exact ⟨false, rfl, fun h => (by cases h), fun _ _ h => absurd h (by omega), zg⟩
  ·have hp1 : p < 0 := by omega
   clear hp
   go_enter Try.func68, Try.ntmps68
   go_wp2_with fail
   go_ret
   exact ⟨false, rfl, fun h => (by cases h), fun _ h _ => absurd h (by omega), zg⟩
set_option maxRecDepth 100000 in
set_option maxHeartbeats 4000000 in
theorem some_1 (err miss : Int) (G : Option Addr) (gl d : Nat) (A : Option Addr) (c : Nat) (hs : List Hf) (p : Int) (pb : -1000 ≤ p ∧ p ≤ 1000) (i0 : 0 ≤ miss) (i1 : miss ≤ 20) (w : World) (hA : HandsAt w A hs) (hl : hs.length ≤ 1000) (ht : ∀ x ∈ hs, x.taken = true) :
  Calls Try.prog 68 #[.agg #[.int .i64 err, .int .i64 miss, .slice G gl d], .slice A hs.length c, .int .i64 1, .int .i64 p] w (SomePost miss hs 1 p w) := by
 have HA := Lib.hid hA
 have HT := Lib.hid ht
 clear hA ht
 by_cases hp : 0 ≤ p ∧ p ≤ 40
 ·obtain ⟨hp0, hp1⟩ := hp
  go_enter Try.func68, Try.ntmps68
  go_wp2_with fail
  go_loopw [9] (fun v9 wr => ∃ a : Int, v9 = .int .i64 a ∧ 0 ≤ a ∧ a ≤ 41 - p ∧ Hid (∀ a' b' : Int, 0 ≤ a' → 0 ≤ b' → a' < a → a' + b' ≤ 40 - p → kindFit miss hs 1 p a' b' = false) ∧ Below w.heap.size w wr ∧ Holds wr w.heap.size 24 #[.int .i64 err, .int .i64 miss, .slice G gl d]) (fun v9 _ => (41 - p - intOf v9).toNat)
  case atStart => exact ⟨0, rfl, by omega, by omega, Lib.hid (fun _ _ _ _ _ _ => by omega), zg, zp4⟩
  case round =>
   obtain ⟨a, rfl, ha0, ha1, hno, hB, hg⟩ := hrel
   have HNO := Lib.hid hno.out
   clear hno
   have HB := Lib.hid hB
   have Hg := Lib.hid hg
   have lg := hg.lt
   clear hB hg
   by_cases hla : a ≤ 40 - p
   ·go_wp2_with fail
    go_loopw [10] (fun v10 wr => ∃ b : Int, v10 = .int .i64 b ∧ 0 ≤ b ∧ b ≤ 41 - p - a ∧ Hid (∀ b' : Int, 0 ≤ b' → b' < b → a + b' ≤ 40 - p → kindFit miss hs 1 p a b' = false) ∧ Below w.heap.size w wr ∧ Holds wr w.heap.size 24 #[.int .i64 err, .int .i64 miss, .slice G gl d]) (fun v10 _ => (41 - p - a - intOf v10).toNat)
    case atStart => exact ⟨0, rfl, by omega, by omega, Lib.hid (fun _ _ _ _ => by omega), HB.out, Hg.out⟩
    case round =>
     clear HB Hg lg
     obtain ⟨b, rfl, hb0, hb1, hnb, hB, hg⟩ := hrel
     have HNB := Lib.hid hnb.out
     clear hnb
     have HB := Lib.hid hB
     have Hg := Lib.hid hg
     have lg := hg.lt
     obtain ⟨kg0, kg1, kg2⟩ := hg.c3
     clear hB hg
     by_cases hlb : a + b ≤ 40 - p
     ·go_wp2_with fail
      refine (fits_any err miss G gl d A c hs (40 - p - a - b) (p) (a) (b) (by omega) (by omega) (by omega) (by omega) i0 i1 _ (HA.out.up (HB.out.trans zg)) hl HT.out).mono ?_
      rw [show hs.all (fitH miss (40 - p - a - b) (p) (a) (b)) = kindFit miss hs 1 p a b from rfl]
      rintro e wf ⟨rfl, hbf⟩
      have HBf : Hid (Below w.heap.size w wf) := Lib.hid (HB.out.trans (Below.trans zg (hbf.mono (by have := HB.out.size; simp; omega))))
      have Hgf := Lib.hid (Holds.up (by have h := Hg.out; exact zp4 : Holds _ w.heap.size 24 #[.int .i64 err, .int .i64 miss, .slice G gl d]) hbf)
      clear hbf kg0 kg1 kg2
      cases hf : kindFit miss hs 1 p a b with
      | true =>
       have HF := Lib.hid hf
       clear hf
       go_wp2_with fail
       go_ret
       exact ⟨true, rfl, fun _ => ⟨⟨hp0, hp1⟩, a, b, ha0, hb0, hlb, HF.out⟩, fun h => (by cases h), HBf.out⟩
      | false =>
       have HF := Lib.hid hf
       clear hf
       go_wp2_with fail
       go_roundw
       case rel =>
        refine ⟨b + 1, rfl, by omega, by omega, Lib.hid ?_, HBf.out, Hgf.out⟩
        intro b' h0 h1 h2
        by_cases hbb : b' = b
        ·rw [hbb]; exact HF.out
        ·exact HNB.out b' h0 (by omega) h2
       case measure => simp [intOf]; omega
     ·go_wp2_with fail
      go_roundw
      case rel =>
       refine ⟨a + 1, rfl, by omega, by omega, Lib.hid ?_, HB.out, Hg.out⟩
       intro a' b' h0 h1 h2 h3
       by_cases haa : a' = a
       ·subst haa; exact HNB.out b' h1 (by omega) h3
       ·exact HNO.out a' b' h0 h1 (by omega) h3
      case measure => simp [intOf]; omega
   ·go_wp2_with fail
    go_ret
    exact ⟨false, rfl, fun h => (by cases h), fun _ _ _ a' b' h0 h1 h2 => HNO.out a' b' h0 h1 (by omega) h2, HB.out⟩
 ·by_cases hp0 : 0 ≤ p
  ·have hp1 : 40 < p := by omega
   clear hp
   go_enter Try.func68, Try.ntmps68
   go_wp2_with fail
   go_ret
   exact ⟨false, rfl, fun h => (by cases h), fun _ _ h => absurd h (by omega), zg⟩
  ·have hp1 : p < 0 := by omega
   clear hp
   go_enter Try.func68, Try.ntmps68
   go_wp2_with fail
   go_ret
   exact ⟨false, rfl, fun h => (by cases h), fun _ h _ => absurd h (by omega), zg⟩
set_option maxRecDepth 100000 in
set_option maxHeartbeats 4000000 in
theorem some_2 (err miss : Int) (G : Option Addr) (gl d : Nat) (A : Option Addr) (c : Nat) (hs : List Hf) (p : Int) (pb : -1000 ≤ p ∧ p ≤ 1000) (i0 : 0 ≤ miss) (i1 : miss ≤ 20) (w : World) (hA : HandsAt w A hs) (hl : hs.length ≤ 1000) (ht : ∀ x ∈ hs, x.taken = true) :
  Calls Try.prog 68 #[.agg #[.int .i64 err, .int .i64 miss, .slice G gl d], .slice A hs.length c, .int .i64 2, .int .i64 p] w (SomePost miss hs 2 p w) := by
 have HA := Lib.hid hA
 have HT := Lib.hid ht
 clear hA ht
 by_cases hp : 0 ≤ p ∧ p ≤ 40
 ·obtain ⟨hp0, hp1⟩ := hp
  go_enter Try.func68, Try.ntmps68
  go_wp2_with fail
  go_loopw [9] (fun v9 wr => ∃ a : Int, v9 = .int .i64 a ∧ 0 ≤ a ∧ a ≤ 41 - p ∧ Hid (∀ a' b' : Int, 0 ≤ a' → 0 ≤ b' → a' < a → a' + b' ≤ 40 - p → kindFit miss hs 2 p a' b' = false) ∧ Below w.heap.size w wr ∧ Holds wr w.heap.size 24 #[.int .i64 err, .int .i64 miss, .slice G gl d]) (fun v9 _ => (41 - p - intOf v9).toNat)
  case atStart => exact ⟨0, rfl, by omega, by omega, Lib.hid (fun _ _ _ _ _ _ => by omega), zg, zp4⟩
  case round =>
   obtain ⟨a, rfl, ha0, ha1, hno, hB, hg⟩ := hrel
   have HNO := Lib.hid hno.out
   clear hno
   have HB := Lib.hid hB
   have Hg := Lib.hid hg
   have lg := hg.lt
   clear hB hg
   by_cases hla : a ≤ 40 - p
   ·go_wp2_with fail
    go_loopw [10] (fun v10 wr => ∃ b : Int, v10 = .int .i64 b ∧ 0 ≤ b ∧ b ≤ 41 - p - a ∧ Hid (∀ b' : Int, 0 ≤ b' → b' < b → a + b' ≤ 40 - p → kindFit miss hs 2 p a b' = false) ∧ Below w.heap.size w wr ∧ Holds wr w.heap.size 24 #[.int .i64 err, .int .i64 miss, .slice G gl d]) (fun v10 _ => (41 - p - a - intOf v10).toNat)
    case atStart => exact ⟨0, rfl, by omega, by omega, Lib.hid (fun _ _ _ _ => by omega), HB.out, Hg.out⟩
    case round =>
     clear HB Hg lg
     obtain ⟨b, rfl, hb0, hb1, hnb, hB, hg⟩ := hrel
     have HNB := Lib.hid hnb.out
     clear hnb
     have HB := Lib.hid hB
     have Hg := Lib.hid hg
     have lg := hg.lt
     obtain ⟨kg0, kg1, kg2⟩ := hg.c3
     clear hB hg
     by_cases hlb : a + b ≤ 40 - p
     ·go_wp2_with fail
      refine (fits_any err miss G gl d A c hs (b) (40 - p - a - b) (p) (a) (by omega) (by omega) (by omega) (by omega) i0 i1 _ (HA.out.up (HB.out.trans zg)) hl HT.out).mono ?_
      rw [show hs.all (fitH miss (b) (40 - p - a - b) (p) (a)) = kindFit miss hs 2 p a b from rfl]
      rintro e wf ⟨rfl, hbf⟩
      have HBf : Hid (Below w.heap.size w wf) := Lib.hid (HB.out.trans (Below.trans zg (hbf.mono (by have := HB.out.size; simp; omega))))
      have Hgf := Lib.hid (Holds.up (by have h := Hg.out; exact zp4 : Holds _ w.heap.size 24 #[.int .i64 err, .int .i64 miss, .slice G gl d]) hbf)
      clear hbf kg0 kg1 kg2
      cases hf : kindFit miss hs 2 p a b with
      | true =>
       have HF := Lib.hid hf
       clear hf
       go_wp2_with fail
       go_ret
       exact ⟨true, rfl, fun _ => ⟨⟨hp0, hp1⟩, a, b, ha0, hb0, hlb, HF.out⟩, fun h => (by cases h), HBf.out⟩
      | false =>
       have HF := Lib.hid hf
       clear hf
       go_wp2_with fail
       go_roundw
       case rel =>
        refine ⟨b + 1, rfl, by omega, by omega, Lib.hid ?_, HBf.out, Hgf.out⟩
        intro b' h0 h1 h2
        by_cases hbb : b' = b
        ·rw [hbb]; exact HF.out
        ·exact HNB.out b' h0 (by omega) h2
       case measure => simp [intOf]; omega
     ·go_wp2_with fail
      go_roundw
      case rel =>
       refine ⟨a + 1, rfl, by omega, by omega, Lib.hid ?_, HB.out, Hg.out⟩
       intro a' b' h0 h1 h2 h3
       by_cases haa : a' = a
       ·subst haa; exact HNB.out b' h1 (by omega) h3
       ·exact HNO.out a' b' h0 h1 (by omega) h3
      case measure => simp [intOf]; omega
   ·go_wp2_with fail
    go_ret
    exact ⟨false, rfl, fun h => (by cases h), fun _ _ _ a' b' h0 h1 h2 => HNO.out a' b' h0 h1 (by omega) h2, HB.out⟩
 ·by_cases hp0 : 0 ≤ p
  ·have hp1 : 40 < p := by omega
   clear hp
   go_enter Try.func68, Try.ntmps68
   go_wp2_with fail
   go_ret
   exact ⟨false, rfl, fun h => (by cases h), fun _ _ h => absurd h (by omega), zg⟩
  ·have hp1 : p < 0 := by omega
   clear hp
   go_enter Try.func68, Try.ntmps68
   go_wp2_with fail
   go_ret
   exact ⟨false, rfl, fun h => (by cases h), fun _ h _ => absurd h (by omega), zg⟩
set_option maxRecDepth 100000 in
set_option maxHeartbeats 4000000 in
theorem some_3 (err miss : Int) (G : Option Addr) (gl d : Nat) (A : Option Addr) (c : Nat) (hs : List Hf) (p : Int) (pb : -1000 ≤ p ∧ p ≤ 1000) (i0 : 0 ≤ miss) (i1 : miss ≤ 20) (w : World) (hA : HandsAt w A hs) (hl : hs.length ≤ 1000) (ht : ∀ x ∈ hs, x.taken = true) :
  Calls Try.prog 68 #[.agg #[.int .i64 err, .int .i64 miss, .slice G gl d], .slice A hs.length c, .int .i64 3, .int .i64 p] w (SomePost miss hs 3 p w) := by
 have HA := Lib.hid hA
 have HT := Lib.hid ht
 clear hA ht
 by_cases hp : 0 ≤ p ∧ p ≤ 40
 ·obtain ⟨hp0, hp1⟩ := hp
  go_enter Try.func68, Try.ntmps68
  go_wp2_with fail
  go_loopw [9] (fun v9 wr => ∃ a : Int, v9 = .int .i64 a ∧ 0 ≤ a ∧ a ≤ 41 - p ∧ Hid (∀ a' b' : Int, 0 ≤ a' → 0 ≤ b' → a' < a → a' + b' ≤ 40 - p → kindFit miss hs 3 p a' b' = false) ∧ Below w.heap.size w wr ∧ Holds wr w.heap.size 24 #[.int .i64 err, .int .i64 miss, .slice G gl d]) (fun v9 _ => (41 - p - intOf v9).toNat)
  case atStart => exact ⟨0, rfl, by omega, by omega, Lib.hid (fun _ _ _ _ _ _ => by omega), zg, zp4⟩
  case round =>
   obtain ⟨a, rfl, ha0, ha1, hno, hB, hg⟩ := hrel
   have HNO := Lib.hid hno.out
   clear hno
   have HB := Lib.hid hB
   have Hg := Lib.hid hg
   have lg := hg.lt
   clear hB hg
   by_cases hla : a ≤ 40 - p
   ·go_wp2_with fail
    go_loopw [10] (fun v10 wr => ∃ b : Int, v10 = .int .i64 b ∧ 0 ≤ b ∧ b ≤ 41 - p - a ∧ Hid (∀ b' : Int, 0 ≤ b' → b' < b → a + b' ≤ 40 - p → kindFit miss hs 3 p a b' = false) ∧ Below w.heap.size w wr ∧ Holds wr w.heap.size 24 #[.int .i64 err, .int .i64 miss, .slice G gl d]) (fun v10 _ => (41 - p - a - intOf v10).toNat)
    case atStart => exact ⟨0, rfl, by omega, by omega, Lib.hid (fun _ _ _ _ => by omega), HB.out, Hg.out⟩
    case round =>
     clear HB Hg lg
     obtain ⟨b, rfl, hb0, hb1, hnb, hB, hg⟩ := hrel
     have HNB := Lib.hid hnb.out
     clear hnb
     have HB := Lib.hid hB
     have Hg := Lib.hid hg
     have lg := hg.lt
     obtain ⟨kg0, kg1, kg2⟩ := hg.c3
     clear hB hg
     by_cases hlb : a + b ≤ 40 - p
     ·go_wp2_with fail
      refine (fits_any err miss G gl d A c hs (a) (b) (40 - p - a - b) (p) (by omega) (by omega) (by omega) (by omega) i0 i1 _ (HA.out.up (HB.out.trans zg)) hl HT.out).mono ?_
      rw [show hs.all (fitH miss (a) (b) (40 - p - a - b) (p)) = kindFit miss hs 3 p a b from rfl]
      rintro e wf ⟨rfl, hbf⟩
      have HBf : Hid (Below w.heap.size w wf) := Lib.hid (HB.out.trans (Below.trans zg (hbf.mono (by have := HB.out.size; simp; omega))))
      have Hgf := Lib.hid (Holds.up (by have h := Hg.out; exact zp4 : Holds _ w.heap.size 24 #[.int .i64 err, .int .i64 miss, .slice G gl d]) hbf)
      clear hbf kg0 kg1 kg2
      cases hf : kindFit miss hs 3 p a b with
      | true =>
       have HF := Lib.hid hf
       clear hf
       go_wp2_with fail
       go_ret
       exact ⟨true, rfl, fun _ => ⟨⟨hp0, hp1⟩, a, b, ha0, hb0, hlb, HF.out⟩, fun h => (by cases h), HBf.out⟩
      | false =>
       have HF := Lib.hid hf
       clear hf
       go_wp2_with fail
       go_roundw
       case rel =>
        refine ⟨b + 1, rfl, by omega, by omega, Lib.hid ?_, HBf.out, Hgf.out⟩
        intro b' h0 h1 h2
        by_cases hbb : b' = b
        ·rw [hbb]; exact HF.out
        ·exact HNB.out b' h0 (by omega) h2
       case measure => simp [intOf]; omega
     ·go_wp2_with fail
      go_roundw
      case rel =>
       refine ⟨a + 1, rfl, by omega, by omega, Lib.hid ?_, HB.out, Hg.out⟩
       intro a' b' h0 h1 h2 h3
       by_cases haa : a' = a
       ·subst haa; exact HNB.out b' h1 (by omega) h3
       ·exact HNO.out a' b' h0 h1 (by omega) h3
      case measure => simp [intOf]; omega
   ·go_wp2_with fail
    go_ret
    exact ⟨false, rfl, fun h => (by cases h), fun _ _ _ a' b' h0 h1 h2 => HNO.out a' b' h0 h1 (by omega) h2, HB.out⟩
 ·by_cases hp0 : 0 ≤ p
  ·have hp1 : 40 < p := by omega
   clear hp
   go_enter Try.func68, Try.ntmps68
   go_wp2_with fail
   go_ret
   exact ⟨false, rfl, fun h => (by cases h), fun _ _ h => absurd h (by omega), zg⟩
  ·have hp1 : p < 0 := by omega
   clear hp
   go_enter Try.func68, Try.ntmps68
   go_wp2_with fail
   go_ret
   exact ⟨false, rfl, fun h => (by cases h), fun _ h _ => absurd h (by omega), zg⟩
end Go.Proofs.Ytigkcillgniolaa
