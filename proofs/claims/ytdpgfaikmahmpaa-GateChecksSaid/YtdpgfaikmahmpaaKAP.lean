import Derived.Laws.AppendOwn
import Derived.OwnWalk
import Derived.Lib.LazyBuf
import Derived.Test.YtdpgfaikmahmpaaKAA
import Derived.Test.YtdpgfaikmahmpaaKAC
import Derived.Test.YtdpgfaikmahmpaaKAO
set_option linter.unusedSimpArgs false
set_option linter.unusedVariables false
namespace Go.Proofs.Ytdpgfaikmahmpaa
open Go.RowKit
def spotBx (miss : Int) (hs : List Hf) (s : Int) : Bx := boundsOf miss (fun i => ((hs[i]?).map Hf.spot).getD 0 == s) hs
def allBx (miss : Int) (hs : List Hf) : Bx := boundsOf miss (fun _ => true) hs
def toppedOf (miss : Int) (hs : List Hf) : Bool := !(spotBx miss hs 0).empty && (!(spotBx miss hs 1).empty && (!(spotBx miss hs 2).empty && (allBx miss hs).empty))
def SpotsTo : Nat → Int → List Hf → Prop
 | 1, m, hs => (spotBx m hs 0).empty = false
 | 2, m, hs => (spotBx m hs 0).empty = false ∧ (spotBx m hs 1).empty = false
 | 3, m, hs => (spotBx m hs 0).empty = false ∧ (spotBx m hs 1).empty = false ∧ (spotBx m hs 2).empty = false
 | _, _, _ => True
set_option maxRecDepth 100000 in
set_option maxHeartbeats 2000000 in
theorem Topped_ok (err miss full empty : Int) (G A : Option Addr) (d c : Nat) (gs : List Gr) (hs : List Hf) (w : World) (hG : GradesAt w G gs) (hgl : gs.length ≤ 1000) (hA : HandsAt w A hs) (hl : hs.length ≤ 1000) (he : bothErr err miss gs full empty hs = 0) :
  Calls Try.prog 53 #[.agg #[.int .i64 err, .int .i64 miss, .slice G gs.length d], .agg #[.int .i64 full, .int .i64 empty, .slice A hs.length c]] w fun e w' => e = .returned (.tuple #[.bool (toppedOf miss hs), .int .i64 0]) ∧ Below w.heap.size w w' := by
 have HA := Lib.hid hA
 have HG := Lib.hid hG
 clear hA hG
 have hq : (bothErr err miss gs full empty hs != 0) = false := by simp [he]
 obtain ⟨hg0, hc0⟩ := bothErr_zero he
 obtain ⟨_, _, _, m0, m1, _, _⟩ := gateErr_zero hg0
 obtain ⟨_, _, _, _, _, ht, hn⟩ := cartErr_zero hc0
 have HE := Lib.hid he
 have HT := Lib.hid ht
 have HN := Lib.hid hn
 clear he hg0 hc0 ht hn
 have hmf : ∀ (fn : Fn) (first cap : Array Value) (w : World), (Instr.makeFunc fn first cap).run Try.prog w = .ok (.func fn first cap) w := fun _ _ _ _ => rfl
 have e0 : toppedOf miss hs = (!(spotBx miss hs 0).empty && (!(spotBx miss hs 1).empty && (!(spotBx miss hs 2).empty && (allBx miss hs).empty))) := rfl
 have E := Lib.hid e0
 clear e0
 go_enter Try.func53, Try.ntmps53
 go_wp2_with (go_at_call 97; refine (arrive_at err miss full empty G A d c gs hs _ (HG.out.up zg) hgl (HA.out.up zg) hl HE.out).mono ?_; rintro e w2 ⟨rfl, hb2⟩; have hB2 : Below w.heap.size w w2 := Below.trans zg (hb2.mono (by first | omega | (simp; done) | (simp; omega))); have hs2 := hb2.size; simp only [World.size_alloc] at hs2; have HA2 := HA.out.up hB2; clear hb2)
 go_loopw [18] (fun v18 wr => Below w.heap.size w wr ∧ w2.heap.size < wr.heap.size ∧ Holds wr (w2.heap.size) 147 #[.int .i64 full, .int .i64 empty, .slice A hs.length c, .int .i64 err, .int .i64 miss, .slice G gs.length d, .func (.func 99) #[.agg #[.int .i64 full, .int .i64 empty, .slice A hs.length c]] #[]] ∧ (v18 = .int .i64 0 ∨ (v18 = .int .i64 1 ∧ SpotsTo 1 miss hs) ∨ (v18 = .int .i64 2 ∧ SpotsTo 2 miss hs) ∨ (v18 = .int .i64 3 ∧ SpotsTo 3 miss hs))) (fun v18 _ => 3 - (intOf v18).toNat)
 case atStart => exact ⟨zg, by simp, zp1, .inl rfl⟩
 case round =>
  obtain ⟨hB, hS, Ha, rfl | ⟨rfl, hp⟩ | ⟨rfl, hp⟩ | ⟨rfl, hp⟩⟩ := hrel
  ·skip
   have hSS := hB.size
   cases hq2 : (spotBx miss hs 0).empty with
   | true =>
    have HQ : Hid ((boundsOf miss (fun i => ((hs[i]?).map Hf.spot).getD 0 == 0) hs).empty = true) := hq2
    have q := Lib.hid hq2
    clear hq2
    obtain ⟨ca0, ca1, ca2, ca3, ca4, ca5, ca6⟩ := Ha.c7
    go_wp2_with (go_at_call 115; refine (agree_any full empty err miss A c hs _ _ 118 #[] #[.pointer (some ⟨w2.heap.size, 0, none⟩), .pointer (some ⟨wr.heap.size, 0, none⟩)] (fun i => ((hs[i]?).map Hf.spot).getD 0 == 0) _ (HA.out.up (hB.alloc hSS _)) hl m0 m1 HT.out HN.out cf_spot (counts_spot w2.heap.size wr.heap.size A c hs 0 _ hl ((Ha.alloc _).cell 2) ((Holds.new wr 3 #[.int .i64 0]).cell 0) (HA.out.up (hB.alloc hSS _)))).mono ?_; rw [HQ.out]; rintro e w4 ⟨rfl, hb4⟩; have Ha4 : Holds w4 (w2.heap.size) 147 #[.int .i64 full, .int .i64 empty, .slice A hs.length c, .int .i64 err, .int .i64 miss, .slice G gs.length d, .func (.func 99) #[.agg #[.int .i64 full, .int .i64 empty, .slice A hs.length c]] #[]] := Holds.up zp1 hb4; have hB4 : Below w.heap.size w w4 := Below.trans zg (hb4.mono (by first | omega | (simp; done) | (simp; omega))); have hs4 := hb4.size; simp only [World.size_alloc] at hs4; clear hb4)
    go_ret2
    have q := q.out
    have hfin : toppedOf miss hs = false := by rw [E.out]; simp [q]
    exact ⟨by rw [hfin]; rfl, hB4⟩
   | false =>
    have HQ : Hid ((boundsOf miss (fun i => ((hs[i]?).map Hf.spot).getD 0 == 0) hs).empty = false) := hq2
    have q := Lib.hid hq2
    clear hq2
    obtain ⟨ca0, ca1, ca2, ca3, ca4, ca5, ca6⟩ := Ha.c7
    go_wp2_with (go_at_call 115; refine (agree_any full empty err miss A c hs _ _ 118 #[] #[.pointer (some ⟨w2.heap.size, 0, none⟩), .pointer (some ⟨wr.heap.size, 0, none⟩)] (fun i => ((hs[i]?).map Hf.spot).getD 0 == 0) _ (HA.out.up (hB.alloc hSS _)) hl m0 m1 HT.out HN.out cf_spot (counts_spot w2.heap.size wr.heap.size A c hs 0 _ hl ((Ha.alloc _).cell 2) ((Holds.new wr 3 #[.int .i64 0]).cell 0) (HA.out.up (hB.alloc hSS _)))).mono ?_; rw [HQ.out]; rintro e w4 ⟨rfl, hb4⟩; have Ha4 : Holds w4 (w2.heap.size) 147 #[.int .i64 full, .int .i64 empty, .slice A hs.length c, .int .i64 err, .int .i64 miss, .slice G gs.length d, .func (.func 99) #[.agg #[.int .i64 full, .int .i64 empty, .slice A hs.length c]] #[]] := Holds.up zp1 hb4; have hB4 : Below w.heap.size w w4 := Below.trans zg (hb4.mono (by first | omega | (simp; done) | (simp; omega))); have hs4 := hb4.size; simp only [World.size_alloc] at hs4; clear hb4)
    go_roundw
    case rel =>
     have q := q.out
     exact ⟨zg, by omega, zp1, .inr (.inl ⟨rfl, q⟩)⟩
    case measure => simp [intOf]
  ·have p0 : (spotBx miss hs 0).empty = false := hp
   have hSS := hB.size
   cases hq2 : (spotBx miss hs 1).empty with
   | true =>
    have HQ : Hid ((boundsOf miss (fun i => ((hs[i]?).map Hf.spot).getD 0 == 1) hs).empty = true) := hq2
    have q := Lib.hid hq2
    clear hq2
    obtain ⟨ca0, ca1, ca2, ca3, ca4, ca5, ca6⟩ := Ha.c7
    go_wp2_with (go_at_call 115; refine (agree_any full empty err miss A c hs _ _ 118 #[] #[.pointer (some ⟨w2.heap.size, 0, none⟩), .pointer (some ⟨wr.heap.size, 0, none⟩)] (fun i => ((hs[i]?).map Hf.spot).getD 0 == 1) _ (HA.out.up (hB.alloc hSS _)) hl m0 m1 HT.out HN.out cf_spot (counts_spot w2.heap.size wr.heap.size A c hs 1 _ hl ((Ha.alloc _).cell 2) ((Holds.new wr 3 #[.int .i64 1]).cell 0) (HA.out.up (hB.alloc hSS _)))).mono ?_; rw [HQ.out]; rintro e w4 ⟨rfl, hb4⟩; have Ha4 : Holds w4 (w2.heap.size) 147 #[.int .i64 full, .int .i64 empty, .slice A hs.length c, .int .i64 err, .int .i64 miss, .slice G gs.length d, .func (.func 99) #[.agg #[.int .i64 full, .int .i64 empty, .slice A hs.length c]] #[]] := Holds.up zp1 hb4; have hB4 : Below w.heap.size w w4 := Below.trans zg (hb4.mono (by first | omega | (simp; done) | (simp; omega))); have hs4 := hb4.size; simp only [World.size_alloc] at hs4; clear hb4)
    go_ret2
    have q := q.out
    have hfin : toppedOf miss hs = false := by rw [E.out]; simp [p0, q]
    exact ⟨by rw [hfin]; rfl, hB4⟩
   | false =>
    have HQ : Hid ((boundsOf miss (fun i => ((hs[i]?).map Hf.spot).getD 0 == 1) hs).empty = false) := hq2
    have q := Lib.hid hq2
    clear hq2
    obtain ⟨ca0, ca1, ca2, ca3, ca4, ca5, ca6⟩ := Ha.c7
    go_wp2_with (go_at_call 115; refine (agree_any full empty err miss A c hs _ _ 118 #[] #[.pointer (some ⟨w2.heap.size, 0, none⟩), .pointer (some ⟨wr.heap.size, 0, none⟩)] (fun i => ((hs[i]?).map Hf.spot).getD 0 == 1) _ (HA.out.up (hB.alloc hSS _)) hl m0 m1 HT.out HN.out cf_spot (counts_spot w2.heap.size wr.heap.size A c hs 1 _ hl ((Ha.alloc _).cell 2) ((Holds.new wr 3 #[.int .i64 1]).cell 0) (HA.out.up (hB.alloc hSS _)))).mono ?_; rw [HQ.out]; rintro e w4 ⟨rfl, hb4⟩; have Ha4 : Holds w4 (w2.heap.size) 147 #[.int .i64 full, .int .i64 empty, .slice A hs.length c, .int .i64 err, .int .i64 miss, .slice G gs.length d, .func (.func 99) #[.agg #[.int .i64 full, .int .i64 empty, .slice A hs.length c]] #[]] := Holds.up zp1 hb4; have hB4 : Below w.heap.size w w4 := Below.trans zg (hb4.mono (by first | omega | (simp; done) | (simp; omega))); have hs4 := hb4.size; simp only [World.size_alloc] at hs4; clear hb4)
    go_roundw
    case rel =>
     have q := q.out
     exact ⟨zg, by omega, zp1, .inr (.inr (.inl ⟨rfl, p0, q⟩))⟩
    case measure => simp [intOf]
  ·obtain ⟨p0, p1⟩ := hp
   have hSS := hB.size
   cases hq2 : (spotBx miss hs 2).empty with
   | true =>
    have HQ : Hid ((boundsOf miss (fun i => ((hs[i]?).map Hf.spot).getD 0 == 2) hs).empty = true) := hq2
    have q := Lib.hid hq2
    clear hq2
    obtain ⟨ca0, ca1, ca2, ca3, ca4, ca5, ca6⟩ := Ha.c7
    go_wp2_with (go_at_call 115; refine (agree_any full empty err miss A c hs _ _ 118 #[] #[.pointer (some ⟨w2.heap.size, 0, none⟩), .pointer (some ⟨wr.heap.size, 0, none⟩)] (fun i => ((hs[i]?).map Hf.spot).getD 0 == 2) _ (HA.out.up (hB.alloc hSS _)) hl m0 m1 HT.out HN.out cf_spot (counts_spot w2.heap.size wr.heap.size A c hs 2 _ hl ((Ha.alloc _).cell 2) ((Holds.new wr 3 #[.int .i64 2]).cell 0) (HA.out.up (hB.alloc hSS _)))).mono ?_; rw [HQ.out]; rintro e w4 ⟨rfl, hb4⟩; have Ha4 : Holds w4 (w2.heap.size) 147 #[.int .i64 full, .int .i64 empty, .slice A hs.length c, .int .i64 err, .int .i64 miss, .slice G gs.length d, .func (.func 99) #[.agg #[.int .i64 full, .int .i64 empty, .slice A hs.length c]] #[]] := Holds.up zp1 hb4; have hB4 : Below w.heap.size w w4 := Below.trans zg (hb4.mono (by first | omega | (simp; done) | (simp; omega))); have hs4 := hb4.size; simp only [World.size_alloc] at hs4; clear hb4)
    go_ret2
    have q := q.out
    have hfin : toppedOf miss hs = false := by rw [E.out]; simp [p0, p1, q]
    exact ⟨by rw [hfin]; rfl, hB4⟩
   | false =>
    have HQ : Hid ((boundsOf miss (fun i => ((hs[i]?).map Hf.spot).getD 0 == 2) hs).empty = false) := hq2
    have q := Lib.hid hq2
    clear hq2
    obtain ⟨ca0, ca1, ca2, ca3, ca4, ca5, ca6⟩ := Ha.c7
    go_wp2_with (go_at_call 115; refine (agree_any full empty err miss A c hs _ _ 118 #[] #[.pointer (some ⟨w2.heap.size, 0, none⟩), .pointer (some ⟨wr.heap.size, 0, none⟩)] (fun i => ((hs[i]?).map Hf.spot).getD 0 == 2) _ (HA.out.up (hB.alloc hSS _)) hl m0 m1 HT.out HN.out cf_spot (counts_spot w2.heap.size wr.heap.size A c hs 2 _ hl ((Ha.alloc _).cell 2) ((Holds.new wr 3 #[.int .i64 2]).cell 0) (HA.out.up (hB.alloc hSS _)))).mono ?_; rw [HQ.out]; rintro e w4 ⟨rfl, hb4⟩; have Ha4 : Holds w4 (w2.heap.size) 147 #[.int .i64 full, .int .i64 empty, .slice A hs.length c, .int .i64 err, .int .i64 miss, .slice G gs.length d, .func (.func 99) #[.agg #[.int .i64 full, .int .i64 empty, .slice A hs.length c]] #[]] := Holds.up zp1 hb4; have hB4 : Below w.heap.size w w4 := Below.trans zg (hb4.mono (by first | omega | (simp; done) | (simp; omega))); have hs4 := hb4.size; simp only [World.size_alloc] at hs4; clear hb4)
    go_roundw
    case rel =>
     have q := q.out
     exact ⟨zg, by omega, zp1, .inr (.inr (.inr ⟨rfl, p0, p1, q⟩))⟩
    case measure => simp [intOf]
  ·obtain ⟨p0, p1, p2⟩ := hp
   have hSS := hB.size
   cases hq2 : (allBx miss hs).empty
   all_goals
    have HQ : Hid ((boundsOf miss (fun _ => true) hs).empty = _) := hq2
    have q := Lib.hid hq2
    clear hq2
    have P0 := Lib.hid p0
    have P1 := Lib.hid p1
    have P2 := Lib.hid p2
    clear p0 p1 p2
    obtain ⟨ca0, ca1, ca2, ca3, ca4, ca5, ca6⟩ := Ha.c7
    go_wp2_with (go_at_call 115; refine (agree_any full empty err miss A c hs _ _ 99 #[.agg #[.int .i64 full, .int .i64 empty, .slice A hs.length c]] #[] (fun _ => true) _ (HA.out.up hB) hl m0 m1 HT.out HN.out cf_hasHandful (counts_hand full empty A hs.length c _ hl)).mono ?_; rw [HQ.out]; rintro e w4 ⟨rfl, hb4⟩)
    go_ret2
    have hfin : toppedOf miss hs = (allBx miss hs).empty := by rw [E.out, P0.out, P1.out, P2.out]; simp
    exact ⟨by rw [hfin, q.out]; rfl, hB.trans (hb4.mono hSS)⟩
def OwnInts (w : World) (B : Nat) (v : Value) (xs : List Int) : Prop := w.ownsRow B 3 1 v xs.length (xs.map (Value.int .i64))
theorem ints_of_row {w : World} {B : Nat} {v : Value} {xs : List Int} (h : OwnInts w B v xs) : ∃ A c, v = .slice A xs.length c ∧ IntsAt w A xs := by
 obtain ⟨_, ⟨rfl, h0⟩ | ⟨g, cap, cur, rfl, _, hb, hn, _, hsz, ht⟩⟩ := h
 ·exact ⟨none, 0, by rw [h0], fun hp => by omega⟩
 ·refine ⟨some ⟨g, 0, none⟩, cap, rfl, fun _ => ⟨g, 0, rfl, fun k x hx => ?_⟩⟩
  have hk : k < xs.length := (List.getElem?_eq_some_iff.1 hx).1
  have h1 : (cur.toList.take (xs.length * 1))[k]? = (xs.map (Value.int .i64))[k]? := by rw [ht]
  rw [List.getElem?_take, if_pos (by omega), List.getElem?_map, hx] at h1
  simp only [World.cell?, hb, Nat.zero_add, Option.bind_some]
  simpa using h1
theorem OwnInts.up {w w' : World} {B : Nat} {v : Value} {xs : List Int} (h : OwnInts w B v xs) (hb : Below w.heap.size w w') : OwnInts w' B v xs := by
 obtain ⟨hl, h | ⟨g, cap, cur, e, hB, hg, r⟩⟩ := h
 ·exact ⟨hl, .inl h⟩
 ·exact ⟨hl, .inr ⟨g, cap, cur, e, hB, (hb.block g (Array.getElem?_eq_some_iff.1 hg).1).trans hg, r⟩⟩
theorem OwnInts.mono {w : World} {B B' : Nat} {v : Value} {xs : List Int} (h : OwnInts w B v xs) (hb : B' ≤ B) : OwnInts w B' v xs := by
 obtain ⟨hl, h | ⟨g, cap, cur, e, hB, hg, r⟩⟩ := h
 ·exact ⟨hl, .inl h⟩
 ·exact ⟨hl, .inr ⟨g, cap, cur, e, Nat.le_trans hb hB, hg, r⟩⟩
theorem info_int : (Try.prog.info? 3).map (fun i => (i.zero, i.size, i.bytes)) = some (some (.int .i64 0), 1, 8) := by kernel_rfl
theorem und_ints : Try.prog.underlying 87 = some (.slice 3) := by kernel_rfl
theorem eq_nil (a : Option Addr) (l c : Nat) (w : World) : (binOp .eql 87 (.slice a l c) (.slice none 0 0)).run Try.prog w = .ok (.bool a.isNone) w := Go.Lib.run_eql_slice_nil w 87 3 a l c 0 0 und_ints
theorem ints_cells {w : World} {B o : Nat} {xs : List Int} (hc : ∀ (k : Nat) (x : Int), xs[k]? = some x → w.cell? ⟨B, o + k, none⟩ = some (.int .i64 x)) :
  ∀ j u, (xs.map (Value.int .i64))[j]? = some u → w.cell? ((⟨B, o, none⟩ : Addr).add j) = some u := by
 intro j u h
 rw [List.getElem?_map] at h
 cases hx : xs[j]? with
 | none => rw [hx] at h; cases h
 | some x =>
  rw [hx] at h
  cases h
  unfold Addr.add
  split
  ·next h0 => subst h0; simpa using hc 0 x hx
  ·exact hc j x hx
theorem ints_one (xs : List Int) : ∀ u ∈ xs.map (Value.int .i64), u.oneCell' = true := by
 intro u hu
 obtain ⟨x, _, rfl⟩ := List.mem_map.1 hu
 rfl
set_option maxRecDepth 100000 in
theorem Clone_nil (w : World) :
  Calls Try.prog 77 #[.slice none 0 0] w fun e w' => e = .returned (.slice none 0 0) ∧ w = w' := by
 have hq := eq_nil
 go_enter Try.func77, Try.ntmps77
 go_wp2_with fail
 go_ret
 exact ⟨rfl, rfl⟩
def ClonedTo (w : World) (xs : List Int) (e : Ending) (w' : World) : Prop := ∃ v', e = .returned v' ∧ OwnInts w' w.heap.size v' xs ∧ Below w.heap.size w w'
set_option maxRecDepth 100000 in
set_option maxHeartbeats 1000000 in
theorem Clone_some (B o : Nat) (c : Nat) (xs : List Int) (w : World) (hA : IntsAt w (some ⟨B, o, none⟩) xs) (hl : xs.length ≤ 1000000) :
  Calls Try.prog 77 #[.slice (some ⟨B, o, none⟩) xs.length c] w (ClonedTo w xs) := by
 obtain ⟨i0, hi, hz0, hz1, hz2⟩ := info_parts info_int
 have hc : ∀ (k : Nat) (x : Int), xs[k]? = some x → w.cell? ⟨B, o + k, none⟩ = some (.int .i64 x) := fun k x hx => by
  obtain ⟨B', o', e, h⟩ := hA (by have := (List.getElem?_eq_some_iff.1 hx).1; omega)
  cases e
  exact h k x hx
 have HA := Lib.hid hc
 clear hA hc
 have hq := eq_nil
 go_enter Try.func77, Try.ntmps77
 go_wp2_with (at_builtin; (refine wpList_append_own _ rfl _ _ 87 rfl w.heap.size 3 i0 (.int .i64 0) 1 8 und_ints hi hz0 hz1 hz2 rfl (by decide) (.slice (some ⟨w.heap.size, 0, none⟩) 0 0) 0 [] rfl ⟨rfl, .inr ⟨w.heap.size, 0, #[], rfl, Nat.le_refl _, (Holds.new w 3 #[]), Nat.le_refl _, by decide, rfl, rfl⟩⟩ ⟨B, o, none⟩ xs.length c (xs.map (Value.int .i64)) rfl (by simp) (fun j u h => up_cell ((Below.refl _ _).alloc (Nat.le_refl _) _) (ints_cells HA.out j u h)) (ints_one xs) (by unfold maxLen; omega) (by omega) (by simp) ?_); intro v' w1 hown1 hgrow1 _; have HO := Lib.hid hown1; have HG := Lib.hid hgrow1; clear hown1 hgrow1)
 go_ret
 refine ⟨v', rfl, ?_, ?_⟩
 ·have := HO.out
  simp only [Nat.zero_add, List.nil_append] at this
  exact this
 ·exact ((Below.refl _ _).alloc (Nat.le_refl _) _).grown HG.out (by simp) (fun k e => by cases e; exact Nat.le_refl _)
end Go.Proofs.Ytdpgfaikmahmpaa
