
import Derived.Test.YtdpgfaikmahmpaaGAA
import Derived.Test.YtdpgfaikmahmpaaGAC
import Derived.Test.YtdpgfaikmahmpaaGAX
import Derived.Test.YtdpgfaikmahmpaaGBF
import Derived.Test.YtdpgfaikmahmpaaGBP
set_option linter.unusedSimpArgs false
set_option linter.unusedVariables false
namespace Go.Proofs.Ytdpgfaikmahmpaa
open Go.RowKit
def MadePost (w : World) (S : Nat) (A : Option Addr) (n c tk : Nat) (grades handfuls : Int) (e : Ending) (w' : World) : Prop :=
 ∃ (err miss full emp m0 m1 m2 m3 : Int) (gs : List Gr) (hs : List Hf) (G H : Option Addr) (d q tk1 : Nat) (m : Int),
  e = .returned (.tuple #[.agg #[.int .i64 err, .int .i64 miss, .slice G gs.length d], .agg #[.int .i64 full, .int .i64 emp, .slice H hs.length q], .agg #[.int .i64 m0, .int .i64 m1, .int .i64 m2, .int .i64 m3]]) ∧ MadeOk err miss full emp m0 m1 m2 m3 gs hs ∧ (gs.length : Int) ≤ grades ∧ (hs.length : Int) ≤ handfuls ∧
  OwnGrades w' w.heap.size (.slice G gs.length d) gs ∧ OwnHands w' w.heap.size (.slice H hs.length q) hs ∧ tk1 ≤ tk + 100 ∧ Holds w' S 172 #[.slice A n c, .int .i64 ((tk1 : Nat) : Int), .int .u32 m] ∧ w.grownBy w' (some S)
def MgRel (w3 : World) (S : Nat) (A : Option Addr) (n c tk : Nat) (err miss cnt : Int) (v10 v25 : Value) (wr : World) : Prop :=
 ∃ (gs : List Gr) (p : Int) (sv : Value) (tk1 : Nat) (m1 : Int), v10 = .int .i64 p ∧ v25 = .int .i64 (gs.length : Int) ∧ (gs.length : Int) ≤ cnt ∧ GradesOk p gs ∧ tk1 ≤ tk + 4 + 5 * gs.length ∧
  Holds wr S 172 #[.slice A n c, .int .i64 ((tk1 : Nat) : Int), .int .u32 m1] ∧ Holds wr w3.heap.size 24 #[.int .i64 err, .int .i64 miss, sv] ∧ OwnGrades wr (w3.heap.size + 1) sv gs ∧ w3.grownBy wr (some S) ∧ w3.heap.size + 1 ≤ wr.heap.size
def MhRel (w9 : World) (S : Nat) (A : Option Addr) (n c tk2 : Nat) (miss full emp m0 m1 m2 m3 cnt : Int) (v63 : Value) (wr : World) : Prop :=
 ∃ (hs : List Hf) (sv : Value) (tk3 : Nat) (mm3 : Int), v63 = .int .i64 (hs.length : Int) ∧ (hs.length : Int) ≤ cnt ∧ (∀ h ∈ hs, TakenOk miss m0 m1 m2 m3 h) ∧ tk3 ≤ tk2 + 3 + 8 * hs.length ∧
  Holds wr S 172 #[.slice A n c, .int .i64 ((tk3 : Nat) : Int), .int .u32 mm3] ∧ Holds wr w9.heap.size 27 #[.int .i64 full, .int .i64 emp, sv] ∧ OwnHands wr (w9.heap.size + 1) sv hs ∧ w9.grownBy wr (some S) ∧ w9.heap.size + 1 ≤ wr.heap.size
theorem zp7 {p : Prop} (h : p := by (repeat first | (with_reducible first | assumption | apply Holds.set4 | apply Holds.set4 | apply Holds.putL | ((refine Holds.new' _ _ ?_); (simp; done)) | refine Holds.alloc ?_ _ | refine Holds.drew ?_ | refine Holds.far ?_ (by simp only [ne_eq]; omega) _) | rfl)) : p := h
set_option maxRecDepth 100000 in
set_option maxHeartbeats 16000000 in
theorem Made_any (S : Nat) (A : Option Addr) (n c tk : Nat) (m : Int) (grades handfuls : Int) (gr0 : 0 ≤ grades) (gr1 : grades ≤ 4) (hh0 : 0 ≤ handfuls) (hh1 : handfuls ≤ 6) (w : World) (hS : Holds w S 172 #[.slice A n c, .int .i64 ((tk : Nat) : Int), .int .u32 m]) (hA : BytesAt w A n) (hn : n ≤ 9223372036854775807) (ht : tk ≤ 800000) :
  Calls Try.prog 62 #[.pointer (some ⟨S, 0, none⟩), .int .i64 grades, .int .i64 handfuls] w (MadePost w S A n c tk grades handfuls) := by
 have hSl := hS.lt
 have HS0 := Lib.hid hS
 have HA0 := Lib.hid hA
 clear hS hA
 go_enter Try.func62, Try.ntmps62
 go_wp2_with fail
 refine (Below_any S A n c tk m 9 _ (HS0.out.up zg) (HA0.out.up zg) hn (by omega) (by decide) (by decide)).mono ?_
 rintro e w2 ⟨err, m2, rfl, er0, er1, _, hs2, g2⟩
 have HS2 := Lib.hid hs2
 have HG2 := Lib.hid ((only_below S (zg : Below w.heap.size w _)).trans g2)
 have HA2 := Lib.hid (HA0.out.grown HS0.out HG2.out)
 have Hrg2 := Lib.hid (Holds.grown (zp4 : Holds _ (w.heap.size) 24 #[.int .i64 0, .int .i64 0, .slice none 0 0]) g2 (by omega))
 have Hrc2 := Lib.hid (Holds.grown (zp4 : Holds _ (w.heap.size + 1) 27 #[.int .i64 0, .int .i64 0, .slice none 0 0]) g2 (by omega))
 have Hrm2 := Lib.hid (Holds.grown (zp4 : Holds _ (w.heap.size + 1 + 1) 28 #[.int .i64 0, .int .i64 0, .int .i64 0, .int .i64 0]) g2 (by omega))
 clear hs2 g2
 go_wp2_with fail
 refine (Below_any S A n c (tk + 1) m2 7 _ HS2.out HA2.out hn (by omega) (by decide) (by decide)).mono ?_
 rintro e w3 ⟨miss, m3_, rfl, i0m, i1m', _, hs3, g3⟩
 have i1m : miss ≤ 20 := by omega
 have HS3 := Lib.hid hs3
 have HG3 := Lib.hid (HG2.out.trans g3)
 have HA3 := Lib.hid (HA0.out.grown HS0.out HG3.out)
 have Hrg3 := Lib.hid (Hrg2.out.grown g3 (by omega))
 have Hrc3 := Lib.hid (Hrc2.out.grown g3 (by omega))
 have Hrm3 := Lib.hid (Hrm2.out.grown g3 (by omega))
 clear hs3 g3
 have hz3 : w.heap.size + 1 + 1 < w3.heap.size := Hrm3.out.lt
 clear HS2 HG2 HA2 Hrg2 Hrc2 Hrm2
 go_wp2_with fail
 refine (Among_any S A n c (tk + 1 + 1) m3_ 1 100 _ (HS3.out.up zg) (HA3.out.up zg) hn (by omega) (by decide) (by decide) (by decide) (by decide)).mono ?_
 rintro e w4 ⟨price, m4, rfl, pr0, pr1, _, hs4, g4⟩
 have HS4 := Lib.hid hs4
 have HG4 := Lib.hid ((only_below S (zg : Below w3.heap.size w3 _)).trans g4)
 have HA4 := Lib.hid (HA0.out.grown HS0.out (HG3.out.trans HG4.out))
 have HC4 := Lib.hid (Holds.grown (zp4 : Holds _ w3.heap.size 24 #[.int .i64 err, .int .i64 miss, .slice none 0 0]) g4 (by omega))
 clear hs4 g4
 go_wp2_with fail
 refine (Below_any S A n c (tk + 1 + 1 + 1) m4 (grades + 1) _ HS4.out HA4.out hn (by omega) (by omega) (by omega)).mono ?_
 rintro e w5 ⟨cnt, m5, rfl, cn0, cn1, _, hs5, g5⟩
 have HS5 := Lib.hid hs5
 have HG5_ := Lib.hid (HG4.out.trans g5)
 have HC5 := Lib.hid (HC4.out.grown g5 (by omega))
 clear hs5 g5 HS4 HG4 HA4 HC4
 have hl5 := HC5.out.lt
 have hcg : cnt ≤ grades := by omega
 go_wp2_with fail
 go_loopw [10, 25] (fun v10 v25 wr => MgRel w3 S A n c tk err miss cnt v10 v25 wr) (fun _ v25 _ => (cnt - intOf v25).toNat)
 case atStart => exact ⟨[], price, .slice none 0 0, tk + 1 + 1 + 1 + 1, m5, rfl, rfl, cn0, GradesOk.nil (by omega) (by omega), by simp, HS5.out, HC5.out, OwnGrades.nil _ _, HG5_.out, hl5⟩
 case round =>
  obtain ⟨gs, p, sv, tk1, m1, rfl, rfl, hlen, hgo, htk, hSr, hC, hO, hGr, hszr⟩ := hrel
  clear HS5 HG5_ HC5 hl5
  have HGO := Lib.hid hgo
  have HSr := Lib.hid hSr
  have HC := Lib.hid hC
  have HO := Lib.hid hO
  have HGr := Lib.hid hGr
  clear hgo hSr hC hO hGr
  by_cases hlt : (gs.length : Int) < cnt
  ·obtain ⟨i0, hi, hz0, hz1, hz2⟩ := info_parts info_grade
   go_wp2_with fail
   rename_i Kc hKc
   have HSL := Lib.hid (show slotsOf [some 27, some 28, some 29, some 30, some 31, some 32, some 33, some 34, some 35, some 36, some 37, some 38, some 39, some 40, some 41, none] = [27, 28, 29, 30, 31, 32, 33, 34, 35, 36, 37, 38, 39, 40, 41] from rfl)
   refine wp_region_partsG (by kernel_rfl) [some 27, some 28, some 29, some 30, some 31, some 32, some 33, some 34, some 35, some 36, some 37, some 38, some 39, some 40, some 41, none] (fun jq xq w' => match jq with
    | 0 => xq 27 = .pointer (some ⟨w3.heap.size, 2, none⟩)
    | 1 => xq 28 = sv
    | 2 => xq 29 = .pointer (some ⟨S, 0, none⟩)
    | 3 => ∃ ra mm, xq 30 = .int .i64 ra ∧ 10 ≤ ra ∧ ra ≤ 38 ∧ Holds w' S 172 #[.slice A n c, .int .i64 ((tk1 + 1 : Nat) : Int), .int .u32 mm]
    | 4 => xq 31 = .pointer (some ⟨S, 0, none⟩)
    | 5 => ∃ rb mm ra, xq 32 = .int .i64 rb ∧ 1 ≤ rb ∧ rb ≤ 14 ∧ Holds w' S 172 #[.slice A n c, .int .i64 ((tk1 + 1 + 1 : Nat) : Int), .int .u32 mm] ∧ xq 30 = .int .i64 ra ∧ 10 ≤ ra ∧ ra ≤ 38
    | 6 => xq 33 = .pointer (some ⟨S, 0, none⟩)
    | 7 => ∃ rc mm ra rb, xq 34 = .int .i64 rc ∧ 0 ≤ rc ∧ rc ≤ 8 ∧ Holds w' S 172 #[.slice A n c, .int .i64 ((tk1 + 1 + 1 + 1 : Nat) : Int), .int .u32 mm] ∧ xq 30 = .int .i64 ra ∧ 10 ≤ ra ∧ ra ≤ 38 ∧ xq 32 = .int .i64 rb ∧ 1 ≤ rb ∧ rb ≤ 14
    | 8 => xq 35 = .pointer (some ⟨S, 0, none⟩)
    | 9 => ∃ rd mm ra rb rc, xq 36 = .int .i64 rd ∧ Holds w' S 172 #[.slice A n c, .int .i64 ((tk1 + 1 + 1 + 1 + 1 : Nat) : Int), .int .u32 mm] ∧ xq 30 = .int .i64 ra ∧ xq 32 = .int .i64 rb ∧ xq 34 = .int .i64 rc ∧ GrB ra rb rc rd
    | 10 => xq 37 = .int .i64 p
    | 11 => ∃ ra rb rc rd, xq 38 = .agg #[.int .i64 ra, .int .i64 rb, .int .i64 rc, .int .i64 rd, .int .i64 p] ∧ GrB ra rb rc rd
    | 12 => ∃ b ra rb rc rd, xq 39 = .slice (some ⟨b, 0, none⟩) 1 1 ∧ w3.heap.size < b ∧ Holds w' b 128 (Gr.cells ⟨ra, rb, rc, rd, p⟩).toArray ∧ GrB ra rb rc rd
    | 13 => ∃ A d ra rb rc rd, xq 40 = .slice A (gs.length + 1) d ∧ OwnGrades w' (w3.heap.size + 1) (.slice A (gs.length + 1) d) (gs ++ [⟨ra, rb, rc, rd, p⟩]) ∧ GrB ra rb rc rd
    | 14 => xq 41 = .pointer (some ⟨w3.heap.size, 2, none⟩)
    | 15 => ∃ A d ra rb rc rd, Holds w' w3.heap.size 24 #[.int .i64 err, .int .i64 miss, .slice A (gs.length + 1) d] ∧ OwnGrades w' (w3.heap.size + 1) (.slice A (gs.length + 1) d) (gs ++ [⟨ra, rb, rc, rd, p⟩]) ∧ GrB ra rb rc rd
    | 16 => Holds w' S 172 #[.slice A n c, .int .i64 ((tk1 : Nat) : Int), .int .u32 m1]
    | 17 => Holds w' w3.heap.size 24 #[.int .i64 err, .int .i64 miss, sv]
    | 18 => OwnGrades w' (w3.heap.size + 1) sv gs
    | _ => True) [[27], [28], [29], [30], [31], [32, 30], [33], [34, 30, 32], [35], [36, 30, 32, 34], [37], [38], [39], [40], [41], [], [], [], []] [(3, 16), (5, 16), (7, 16), (9, 16), (13, 16), (15, 16), (5, 3), (7, 3), (9, 3), (13, 3), (15, 3), (7, 5), (9, 5), (13, 5), (15, 5), (9, 7), (13, 7), (15, 7), (13, 12), (15, 12), (13, 18), (15, 17)] (fun w' => w3.grownBy w' (some S)) (by kernel_rfl) ?_ ?_ (fun w' w'' hb h => only_up h hb) (HGr.out) ?_ ?_ ?_
   ·intro jq xq xq' wq h hv
    match jq, h, hv with
    | 0, h, hv => show xq' 27 = .pointer (some ⟨w3.heap.size, 2, none⟩); rw [← h 27 (by decide)]; exact hv
    | 1, h, hv => show xq' 28 = sv; rw [← h 28 (by decide)]; exact hv
    | 2, h, hv => show xq' 29 = .pointer (some ⟨S, 0, none⟩); rw [← h 29 (by decide)]; exact hv
    | 3, h, hv => show ∃ ra mm, xq' 30 = .int .i64 ra ∧ 10 ≤ ra ∧ ra ≤ 38 ∧ Holds wq S 172 #[.slice A n c, .int .i64 ((tk1 + 1 : Nat) : Int), .int .u32 mm]; rw [← h 30 (by decide)]; exact hv
    | 4, h, hv => show xq' 31 = .pointer (some ⟨S, 0, none⟩); rw [← h 31 (by decide)]; exact hv
    | 5, h, hv => show ∃ rb mm ra, xq' 32 = .int .i64 rb ∧ 1 ≤ rb ∧ rb ≤ 14 ∧ Holds wq S 172 #[.slice A n c, .int .i64 ((tk1 + 1 + 1 : Nat) : Int), .int .u32 mm] ∧ xq' 30 = .int .i64 ra ∧ 10 ≤ ra ∧ ra ≤ 38; rw [← h 32 (by decide), ← h 30 (by decide)]; exact hv
    | 6, h, hv => show xq' 33 = .pointer (some ⟨S, 0, none⟩); rw [← h 33 (by decide)]; exact hv
    | 7, h, hv => show ∃ rc mm ra rb, xq' 34 = .int .i64 rc ∧ 0 ≤ rc ∧ rc ≤ 8 ∧ Holds wq S 172 #[.slice A n c, .int .i64 ((tk1 + 1 + 1 + 1 : Nat) : Int), .int .u32 mm] ∧ xq' 30 = .int .i64 ra ∧ 10 ≤ ra ∧ ra ≤ 38 ∧ xq' 32 = .int .i64 rb ∧ 1 ≤ rb ∧ rb ≤ 14; rw [← h 34 (by decide), ← h 30 (by decide), ← h 32 (by decide)]; exact hv
    | 8, h, hv => show xq' 35 = .pointer (some ⟨S, 0, none⟩); rw [← h 35 (by decide)]; exact hv
    | 9, h, hv => show ∃ rd mm ra rb rc, xq' 36 = .int .i64 rd ∧ Holds wq S 172 #[.slice A n c, .int .i64 ((tk1 + 1 + 1 + 1 + 1 : Nat) : Int), .int .u32 mm] ∧ xq' 30 = .int .i64 ra ∧ xq' 32 = .int .i64 rb ∧ xq' 34 = .int .i64 rc ∧ GrB ra rb rc rd; rw [← h 36 (by decide), ← h 30 (by decide), ← h 32 (by decide), ← h 34 (by decide)]; exact hv
    | 10, h, hv => show xq' 37 = .int .i64 p; rw [← h 37 (by decide)]; exact hv
    | 11, h, hv => show ∃ ra rb rc rd, xq' 38 = .agg #[.int .i64 ra, .int .i64 rb, .int .i64 rc, .int .i64 rd, .int .i64 p] ∧ GrB ra rb rc rd; rw [← h 38 (by decide)]; exact hv
    | 12, h, hv => show ∃ b ra rb rc rd, xq' 39 = .slice (some ⟨b, 0, none⟩) 1 1 ∧ w3.heap.size < b ∧ Holds wq b 128 (Gr.cells ⟨ra, rb, rc, rd, p⟩).toArray ∧ GrB ra rb rc rd; rw [← h 39 (by decide)]; exact hv
    | 13, h, hv => show ∃ A d ra rb rc rd, xq' 40 = .slice A (gs.length + 1) d ∧ OwnGrades wq (w3.heap.size + 1) (.slice A (gs.length + 1) d) (gs ++ [⟨ra, rb, rc, rd, p⟩]) ∧ GrB ra rb rc rd; rw [← h 40 (by decide)]; exact hv
    | 14, h, hv => show xq' 41 = .pointer (some ⟨w3.heap.size, 2, none⟩); rw [← h 41 (by decide)]; exact hv
    | 15, h, hv => exact hv
    | 16, h, hv => exact hv
    | 17, h, hv => exact hv
    | 18, h, hv => exact hv
    | _ + 19, _, _ => trivial
   ·intro jq xq wq w' hb' hv
    match jq, hv with
    | 0, hv => exact hv
    | 1, hv => exact hv
    | 2, hv => exact hv
    | 3, ⟨b0, b1, h0, h1, h2, h3⟩ => exact ⟨b0, b1, h0, h1, h2, h3.up hb'⟩
    | 4, hv => exact hv
    | 5, ⟨b0, b1, b2, h0, h1, h2, h3, h4, h5, h6⟩ => exact ⟨b0, b1, b2, h0, h1, h2, h3.up hb', h4, h5, h6⟩
    | 6, hv => exact hv
    | 7, ⟨b0, b1, b2, b3, h0, h1, h2, h3, h4, h5, h6, h7, h8, h9⟩ => exact ⟨b0, b1, b2, b3, h0, h1, h2, h3.up hb', h4, h5, h6, h7, h8, h9⟩
    | 8, hv => exact hv
    | 9, ⟨b0, b1, b2, b3, b4, h0, h1, h2, h3, h4, h5⟩ => exact ⟨b0, b1, b2, b3, b4, h0, h1.up hb', h2, h3, h4, h5⟩
    | 10, hv => exact hv
    | 11, ⟨b0, b1, b2, b3, h0, h1⟩ => exact ⟨b0, b1, b2, b3, h0, h1⟩
    | 12, ⟨b0, b1, b2, b3, b4, h0, h1, h2, h3⟩ => exact ⟨b0, b1, b2, b3, b4, h0, h1, h2.up hb', h3⟩
    | 13, ⟨b0, b1, b2, b3, b4, b5, h0, h1, h2⟩ => exact ⟨b0, b1, b2, b3, b4, b5, h0, h1.up hb', h2⟩
    | 14, hv => exact hv
    | 15, ⟨b0, b1, b2, b3, b4, b5, h0, h1, h2⟩ => exact ⟨b0, b1, b2, b3, b4, b5, h0.up hb', h1.up hb', h2⟩
    | 16, h0 => exact h0.up hb'
    | 17, h0 => exact h0.up hb'
    | 18, h0 => exact h0.up hb'
    | _ + 19, _ => trivial
   ·intro jq hj
    match jq, hj with
    | 0, hj => exact absurd hj (by decide)
    | 1, hj => exact absurd hj (by decide)
    | 2, hj => exact absurd hj (by decide)
    | 3, hj => exact absurd hj (by decide)
    | 4, hj => exact absurd hj (by decide)
    | 5, hj => exact absurd hj (by decide)
    | 6, hj => exact absurd hj (by decide)
    | 7, hj => exact absurd hj (by decide)
    | 8, hj => exact absurd hj (by decide)
    | 9, hj => exact absurd hj (by decide)
    | 10, hj => exact absurd hj (by decide)
    | 11, hj => exact absurd hj (by decide)
    | 12, hj => exact absurd hj (by decide)
    | 13, hj => exact absurd hj (by decide)
    | 14, hj => exact absurd hj (by decide)
    | 15, hj => exact absurd hj (by decide)
    | 16, _ => exact HSr.out
    | 17, _ => exact HC.out
    | 18, _ => exact HO.out
    | _ + 19, _ => trivial
   ·refine ⟨?_, ?_, ?_, ?_, ?_, ?_, ?_, ?_, ?_, ?_, ?_, ?_, ?_, ?_, ?_, ?_, trivial⟩
    ·intro xq w1 hb1 hx K hK0
     have hK := fun v w' hb => hK0 v w' (.inl hb)
     clear hx hKc hK0
     have hsz1 := hb1.size
     simp only [frameOf, fill, setSlot, sg, Nat.reduceBEq, if_true, if_false, Nat.reduceAdd, Nat.reduceEqDiff, HSL.out] at hK ⊢
     go_wp2_with (fail)
     exact hK _ _ (Below.refl _ _) rfl
    ·intro xq w1 hb1 hx K hK0
     have hK := fun v w' hb => hK0 v w' (.inl hb)
     have e27 : xq 27 = .pointer (some ⟨w3.heap.size, 2, none⟩) := hx 0 (by rfl) (by rfl)
     have fig_0 : Holds w1 w3.heap.size 24 #[.int .i64 err, .int .i64 miss, sv] := hx 17 (by rfl) (by rfl)
     clear hx hKc hK0
     have hsz1 := hb1.size
     obtain ⟨c0, c1, c2⟩ := fig_0.c3
     simp only [frameOf, fill, setSlot, sg, Nat.reduceBEq, if_true, if_false, Nat.reduceAdd, Nat.reduceEqDiff, HSL.out] at hK ⊢
     simp only [e27] at hK ⊢
     clear e27
     go_wp2_with (fail)
     exact hK _ _ (Below.refl _ _) rfl
    ·intro xq w1 hb1 hx K hK0
     have hK := fun v w' hb => hK0 v w' (.inl hb)
     clear hx hKc hK0
     have hsz1 := hb1.size
     simp only [frameOf, fill, setSlot, sg, Nat.reduceBEq, if_true, if_false, Nat.reduceAdd, Nat.reduceEqDiff, HSL.out] at hK ⊢
     go_wp2_with (fail)
     exact hK _ _ (Below.refl _ _) rfl
    ·intro xq w1 hb1 hx K hK0
     have hK := fun v w' hb => hK0 v w' (.inr hb)
     have e29 : xq 29 = .pointer (some ⟨S, 0, none⟩) := hx 2 (by rfl) (by rfl)
     have fiS_0 : Holds w1 S 172 #[.slice A n c, .int .i64 ((tk1 : Nat) : Int), .int .u32 m1] := hx 16 (by rfl) (by rfl)
     clear hx hKc hK0
     have hsz1 := hb1.size
     simp only [frameOf, fill, setSlot, sg, Nat.reduceBEq, if_true, if_false, Nat.reduceAdd, Nat.reduceEqDiff, HSL.out] at hK ⊢
     simp only [e29] at hK ⊢
     clear e29
     go_wp2_with ((go_at_call 124; refine (Among_any S A n c (tk1) m1 10 38 _ fiS_0 (HA0.out.grown HS0.out (HG3.out.trans hb1)) hn (by omega) (by decide) (by decide) (by decide) (by decide)).mono ?_; rintro e w2 ⟨r, mm, rfl, r0, r1, _, hs, g⟩))
     refine hK _ _ ⟨(hb1.trans g), ?_⟩ ⟨r, mm, rfl, by omega, by omega, hs⟩
     intro jq xq hd hne hv
     match jq, hd, hne, hv with
     | 0, _, _, hv => exact hv
     | 1, _, _, hv => exact hv
     | 2, _, _, hv => exact hv
     | 3, _, hne, _ => exact absurd rfl hne
     | 4, _, _, hv => exact hv
     | 5, _, _, hv => obtain ⟨_, _, _, _, _, _, hx_, _⟩ := hv; exact (tick_clash fiS_0 hx_ (by omega)).elim
     | 6, _, _, hv => exact hv
     | 7, _, _, hv => obtain ⟨_, _, _, _, _, _, _, hx_, _⟩ := hv; exact (tick_clash fiS_0 hx_ (by omega)).elim
     | 8, _, _, hv => exact hv
     | 9, _, _, hv => obtain ⟨_, _, _, _, _, _, hx_, _⟩ := hv; exact (tick_clash fiS_0 hx_ (by omega)).elim
     | 10, _, _, hv => exact hv
     | 11, _, _, hv => exact hv
     | 12, _, _, hv => obtain ⟨b, x1, x2, x3, x4, e1, hbb, h1, h2⟩ := hv; exact ⟨b, x1, x2, x3, x4, e1, hbb, h1.grown g (by omega), h2⟩
     | 13, _, _, hv => obtain ⟨a1, d1, x1, x2, x3, x4, e1, h1, h2⟩ := hv; exact ⟨a1, d1, x1, x2, x3, x4, e1, h1.sack g (by omega), h2⟩
     | 14, _, _, hv => exact hv
     | 15, _, _, hv => obtain ⟨a1, d1, x1, x2, x3, x4, h0, h1, h2⟩ := hv; exact ⟨a1, d1, x1, x2, x3, x4, h0.grown g (by omega), h1.sack g (by omega), h2⟩
     | 16, hd, _, _ => exact absurd hd (by decide)
     | 17, _, _, hv => exact Holds.grown hv g (by omega)
     | 18, _, _, hv => exact OwnGrades.sack hv g (by omega)
     | _ + 19, _, _, _ => trivial
    ·intro xq w1 hb1 hx K hK0
     have hK := fun v w' hb => hK0 v w' (.inl hb)
     clear hx hKc hK0
     have hsz1 := hb1.size
     simp only [frameOf, fill, setSlot, sg, Nat.reduceBEq, if_true, if_false, Nat.reduceAdd, Nat.reduceEqDiff, HSL.out] at hK ⊢
     go_wp2_with (fail)
     exact hK _ _ (Below.refl _ _) rfl
    ·intro xq w1 hb1 hx K hK0
     have hK := fun v w' hb => hK0 v w' (.inr hb)
     obtain ⟨ra30, mm30, e30, f30_0, f30_1, f30_2⟩ := hx 3 (by rfl) (by rfl)
     have e31 : xq 31 = .pointer (some ⟨S, 0, none⟩) := hx 4 (by rfl) (by rfl)
     clear hx hKc hK0
     have hsz1 := hb1.size
     simp only [frameOf, fill, setSlot, sg, Nat.reduceBEq, if_true, if_false, Nat.reduceAdd, Nat.reduceEqDiff, HSL.out] at hK ⊢
     simp only [e30, e31] at hK ⊢
     clear e30 e31
     go_wp2_with ((go_at_call 124; refine (Among_any S A n c (tk1 + 1) mm30 1 14 _ f30_2 (HA0.out.grown HS0.out (HG3.out.trans hb1)) hn (by omega) (by decide) (by decide) (by decide) (by decide)).mono ?_; rintro e w2 ⟨r, mm, rfl, r0, r1, _, hs, g⟩))
     refine hK _ _ ⟨(hb1.trans g), ?_⟩ ⟨r, mm, _, rfl, by omega, by omega, hs, rfl, f30_0, f30_1⟩
     intro jq xq hd hne hv
     match jq, hd, hne, hv with
     | 0, _, _, hv => exact hv
     | 1, _, _, hv => exact hv
     | 2, _, _, hv => exact hv
     | 3, hd, _, _ => exact absurd hd (by decide)
     | 4, _, _, hv => exact hv
     | 5, _, hne, _ => exact absurd rfl hne
     | 6, _, _, hv => exact hv
     | 7, _, _, hv => obtain ⟨_, _, _, _, _, _, _, hx_, _⟩ := hv; exact (tick_clash f30_2 hx_ (by omega)).elim
     | 8, _, _, hv => exact hv
     | 9, _, _, hv => obtain ⟨_, _, _, _, _, _, hx_, _⟩ := hv; exact (tick_clash f30_2 hx_ (by omega)).elim
     | 10, _, _, hv => exact hv
     | 11, _, _, hv => exact hv
     | 12, _, _, hv => obtain ⟨b, x1, x2, x3, x4, e1, hbb, h1, h2⟩ := hv; exact ⟨b, x1, x2, x3, x4, e1, hbb, h1.grown g (by omega), h2⟩
     | 13, _, _, hv => obtain ⟨a1, d1, x1, x2, x3, x4, e1, h1, h2⟩ := hv; exact ⟨a1, d1, x1, x2, x3, x4, e1, h1.sack g (by omega), h2⟩
     | 14, _, _, hv => exact hv
     | 15, _, _, hv => obtain ⟨a1, d1, x1, x2, x3, x4, h0, h1, h2⟩ := hv; exact ⟨a1, d1, x1, x2, x3, x4, h0.grown g (by omega), h1.sack g (by omega), h2⟩
     | 16, hd, _, _ => exact absurd hd (by decide)
     | 17, _, _, hv => exact Holds.grown hv g (by omega)
     | 18, _, _, hv => exact OwnGrades.sack hv g (by omega)
     | _ + 19, _, _, _ => trivial
    ·intro xq w1 hb1 hx K hK0
     have hK := fun v w' hb => hK0 v w' (.inl hb)
     clear hx hKc hK0
     have hsz1 := hb1.size
     simp only [frameOf, fill, setSlot, sg, Nat.reduceBEq, if_true, if_false, Nat.reduceAdd, Nat.reduceEqDiff, HSL.out] at hK ⊢
     go_wp2_with (fail)
     exact hK _ _ (Below.refl _ _) rfl
    ·intro xq w1 hb1 hx K hK0
     have hK := fun v w' hb => hK0 v w' (.inr hb)
     obtain ⟨rb32, mm32, ra32, e32, f32_0, f32_1, f32_2, f32_3, f32_4, f32_5⟩ := hx 5 (by rfl) (by rfl)
     have e33 : xq 33 = .pointer (some ⟨S, 0, none⟩) := hx 6 (by rfl) (by rfl)
     clear hx hKc hK0
     have hsz1 := hb1.size
     simp only [frameOf, fill, setSlot, sg, Nat.reduceBEq, if_true, if_false, Nat.reduceAdd, Nat.reduceEqDiff, HSL.out] at hK ⊢
     simp only [e32, e33, f32_3] at hK ⊢
     clear e32 e33 f32_3
     go_wp2_with ((go_at_call 74; refine (Below_any S A n c (tk1 + 1 + 1) mm32 9 _ f32_2 (HA0.out.grown HS0.out (HG3.out.trans hb1)) hn (by omega) (by decide) (by decide)).mono ?_; rintro e w2 ⟨r, mm, rfl, r0, r1, _, hs, g⟩))
     refine hK _ _ ⟨(hb1.trans g), ?_⟩ ⟨r, mm, _, _, rfl, by omega, by omega, hs, rfl, f32_4, f32_5, rfl, f32_0, f32_1⟩
     intro jq xq hd hne hv
     match jq, hd, hne, hv with
     | 0, _, _, hv => exact hv
     | 1, _, _, hv => exact hv
     | 2, _, _, hv => exact hv
     | 3, hd, _, _ => exact absurd hd (by decide)
     | 4, _, _, hv => exact hv
     | 5, hd, _, _ => exact absurd hd (by decide)
     | 6, _, _, hv => exact hv
     | 7, _, hne, _ => exact absurd rfl hne
     | 8, _, _, hv => exact hv
     | 9, _, _, hv => obtain ⟨_, _, _, _, _, _, hx_, _⟩ := hv; exact (tick_clash f32_2 hx_ (by omega)).elim
     | 10, _, _, hv => exact hv
     | 11, _, _, hv => exact hv
     | 12, _, _, hv => obtain ⟨b, x1, x2, x3, x4, e1, hbb, h1, h2⟩ := hv; exact ⟨b, x1, x2, x3, x4, e1, hbb, h1.grown g (by omega), h2⟩
     | 13, _, _, hv => obtain ⟨a1, d1, x1, x2, x3, x4, e1, h1, h2⟩ := hv; exact ⟨a1, d1, x1, x2, x3, x4, e1, h1.sack g (by omega), h2⟩
     | 14, _, _, hv => exact hv
     | 15, _, _, hv => obtain ⟨a1, d1, x1, x2, x3, x4, h0, h1, h2⟩ := hv; exact ⟨a1, d1, x1, x2, x3, x4, h0.grown g (by omega), h1.sack g (by omega), h2⟩
     | 16, hd, _, _ => exact absurd hd (by decide)
     | 17, _, _, hv => exact Holds.grown hv g (by omega)
     | 18, _, _, hv => exact OwnGrades.sack hv g (by omega)
     | _ + 19, _, _, _ => trivial
    ·intro xq w1 hb1 hx K hK0
     have hK := fun v w' hb => hK0 v w' (.inl hb)
     clear hx hKc hK0
     have hsz1 := hb1.size
     simp only [frameOf, fill, setSlot, sg, Nat.reduceBEq, if_true, if_false, Nat.reduceAdd, Nat.reduceEqDiff, HSL.out] at hK ⊢
     go_wp2_with (fail)
     exact hK _ _ (Below.refl _ _) rfl
    ·intro xq w1 hb1 hx K hK0
     have hK := fun v w' hb => hK0 v w' (.inr hb)
     obtain ⟨rc34, mm34, ra34, rb34, e34, f34_0, f34_1, f34_2, f34_3, f34_4, f34_5, f34_6, f34_7, f34_8⟩ := hx 7 (by rfl) (by rfl)
     have e35 : xq 35 = .pointer (some ⟨S, 0, none⟩) := hx 8 (by rfl) (by rfl)
     clear hx hKc hK0
     have hsz1 := hb1.size
     simp only [frameOf, fill, setSlot, sg, Nat.reduceBEq, if_true, if_false, Nat.reduceAdd, Nat.reduceEqDiff, HSL.out] at hK ⊢
     simp only [e34, e35, f34_3, f34_6] at hK ⊢
     clear e34 e35 f34_3 f34_6
     go_wp2_with ((go_at_call 124; refine (Among_any S A n c (tk1 + 1 + 1 + 1) mm34 1 14 _ f34_2 (HA0.out.grown HS0.out (HG3.out.trans hb1)) hn (by omega) (by decide) (by decide) (by decide) (by decide)).mono ?_; rintro e w2 ⟨r, mm, rfl, r0, r1, _, hs, g⟩))
     refine hK _ _ ⟨(hb1.trans g), ?_⟩ ⟨r, mm, _, _, _, rfl, hs, rfl, rfl, rfl, ⟨⟨f34_4, f34_5⟩, ⟨f34_7, f34_8⟩, ⟨f34_0, f34_1⟩, by omega, by omega⟩⟩
     intro jq xq hd hne hv
     match jq, hd, hne, hv with
     | 0, _, _, hv => exact hv
     | 1, _, _, hv => exact hv
     | 2, _, _, hv => exact hv
     | 3, hd, _, _ => exact absurd hd (by decide)
     | 4, _, _, hv => exact hv
     | 5, hd, _, _ => exact absurd hd (by decide)
     | 6, _, _, hv => exact hv
     | 7, hd, _, _ => exact absurd hd (by decide)
     | 8, _, _, hv => exact hv
     | 9, _, hne, _ => exact absurd rfl hne
     | 10, _, _, hv => exact hv
     | 11, _, _, hv => exact hv
     | 12, _, _, hv => obtain ⟨b, x1, x2, x3, x4, e1, hbb, h1, h2⟩ := hv; exact ⟨b, x1, x2, x3, x4, e1, hbb, h1.grown g (by omega), h2⟩
     | 13, _, _, hv => obtain ⟨a1, d1, x1, x2, x3, x4, e1, h1, h2⟩ := hv; exact ⟨a1, d1, x1, x2, x3, x4, e1, h1.sack g (by omega), h2⟩
     | 14, _, _, hv => exact hv
     | 15, _, _, hv => obtain ⟨a1, d1, x1, x2, x3, x4, h0, h1, h2⟩ := hv; exact ⟨a1, d1, x1, x2, x3, x4, h0.grown g (by omega), h1.sack g (by omega), h2⟩
     | 16, hd, _, _ => exact absurd hd (by decide)
     | 17, _, _, hv => exact Holds.grown hv g (by omega)
     | 18, _, _, hv => exact OwnGrades.sack hv g (by omega)
     | _ + 19, _, _, _ => trivial
    ·intro xq w1 hb1 hx K hK0
     have hK := fun v w' hb => hK0 v w' (.inl hb)
     clear hx hKc hK0
     have hsz1 := hb1.size
     simp only [frameOf, fill, setSlot, sg, Nat.reduceBEq, if_true, if_false, Nat.reduceAdd, Nat.reduceEqDiff, HSL.out] at hK ⊢
     go_wp2_with (fail)
     exact hK _ _ (Below.refl _ _) rfl
    ·intro xq w1 hb1 hx K hK0
     have hK := fun v w' hb => hK0 v w' (.inl hb)
     obtain ⟨rd36, mm36, ra36, rb36, rc36, e36, f36_0, f36_1, f36_2, f36_3, f36_4⟩ := hx 9 (by rfl) (by rfl)
     have e37 : xq 37 = .int .i64 p := hx 10 (by rfl) (by rfl)
     clear hx hKc hK0
     have hsz1 := hb1.size
     simp only [frameOf, fill, setSlot, sg, Nat.reduceBEq, if_true, if_false, Nat.reduceAdd, Nat.reduceEqDiff, HSL.out] at hK ⊢
     simp only [e36, e37, f36_1, f36_2, f36_3] at hK ⊢
     clear e36 e37 f36_1 f36_2 f36_3
     go_wp2_with (fail)
     exact hK _ _ (Below.refl _ _) ⟨_, _, _, _, rfl, f36_4⟩
    ·intro xq w1 hb1 hx K hK0
     have hK := fun v w' hb => hK0 v w' (.inl hb)
     obtain ⟨ra38, rb38, rc38, rd38, e38, f38_0⟩ := hx 11 (by rfl) (by rfl)
     have fig_0 : Holds w1 w3.heap.size 24 #[.int .i64 err, .int .i64 miss, sv] := hx 17 (by rfl) (by rfl)
     clear hx hKc hK0
     have hsz1 := hb1.size
     have hltg := fig_0.lt
     simp only [frameOf, fill, setSlot, sg, Nat.reduceBEq, if_true, if_false, Nat.reduceAdd, Nat.reduceEqDiff, HSL.out] at hK ⊢
     simp only [e38] at hK ⊢
     clear e38
     go_wp2_with (fail)
     exact hK _ _ ((Below.refl _ _).alloc (Nat.le_refl _) _) ⟨_, _, _, _, _, rfl, (by omega), Holds.new _ _ _, f38_0⟩
    ·intro xq w1 hb1 hx K hK0
     have hK := fun v w' hb => hK0 v w' (.inr hb)
     have e28 : xq 28 = sv := hx 1 (by rfl) (by rfl)
     obtain ⟨b39, ra39, rb39, rc39, rd39, e39, f39_0, f39_1, f39_2⟩ := hx 12 (by rfl) (by rfl)
     have fio_0 : OwnGrades w1 (w3.heap.size + 1) sv gs := hx 18 (by rfl) (by rfl)
     have fig_0 : Holds w1 w3.heap.size 24 #[.int .i64 err, .int .i64 miss, sv] := hx 17 (by rfl) (by rfl)
     clear hx hKc hK0
     have hsz1 := hb1.size
     have hltg := fig_0.lt
     have HO1 : Hid (w1.ownsRow (w3.heap.size + 1) 128 5 sv gs.length (gs.flatMap Gr.cells)) := Lib.hid fio_0
     simp only [frameOf, fill, setSlot, sg, Nat.reduceBEq, if_true, if_false, Nat.reduceAdd, Nat.reduceEqDiff, HSL.out] at hK ⊢
     simp only [e28, e39] at hK ⊢
     clear e28 e39
     go_wp2_with ((at_builtin; (refine wpList_append_own _ rfl _ _ 22 rfl (w3.heap.size + 1) 128 i0 _ 5 40 und_grades hi hz0 hz1 hz2 rfl (by decide) _ _ _ rfl HO1.out ⟨b39, 0, none⟩ 1 1 (Gr.cells ⟨ra39, rb39, rc39, rd39, p⟩) rfl rfl (holds_news f39_1) (grade_one _) (by unfold maxLen; omega) (by omega) (by omega) ?_); intro v5 w5 hown5 hgrow5 _; obtain ⟨A5, c5, rfl, _⟩ := row5_val hown5; have ho5 := OwnGrades.snoc (g := ⟨ra39, rb39, rc39, rd39, p⟩) hown5; have HO5 := Lib.hid ho5; have HG5 := Lib.hid hgrow5; clear hown5 hgrow5 ho5))
     refine hK _ _ ⟨(grow_row hb1 HG5.out (fun k hk => Nat.le_trans (by omega) (row5_block HO1.out k hk))), ?_⟩ ⟨_, _, _, _, _, _, rfl, HO5.out, f39_2⟩
     intro jq xq hd hne hv
     match jq, hd, hne, hv with
     | 0, _, _, hv => exact hv
     | 1, _, _, hv => exact hv
     | 2, _, _, hv => exact hv
     | 3, hd, _, _ => exact absurd hd (by decide)
     | 4, _, _, hv => exact hv
     | 5, hd, _, _ => exact absurd hd (by decide)
     | 6, _, _, hv => exact hv
     | 7, hd, _, _ => exact absurd hd (by decide)
     | 8, _, _, hv => exact hv
     | 9, _, _, hv => obtain ⟨x1, x2, x3, x4, x5, e1, h1, h2⟩ := hv; exact ⟨x1, x2, x3, x4, x5, e1, h1.row HG5.out (fun k hk => Nat.lt_of_lt_of_le (by omega) (row5_block HO1.out k hk)), h2⟩
     | 10, _, _, hv => exact hv
     | 11, _, _, hv => exact hv
     | 12, hd, _, _ => exact absurd hd (by decide)
     | 13, _, hne, _ => exact absurd rfl hne
     | 14, _, _, hv => exact hv
     | 15, _, _, hv => obtain ⟨_, _, _, _, _, _, h9, _⟩ := hv; exact (row_over h9 fig_0 HO1.out rfl).elim
     | 16, hd, _, _ => exact absurd hd (by decide)
     | 17, _, _, hv => exact Holds.row hv HG5.out (fun k hk => Nat.lt_of_lt_of_le (by omega) (row5_block HO1.out k hk))
     | 18, hd, _, _ => exact absurd hd (by decide)
     | _ + 19, _, _, _ => trivial
    ·intro xq w1 hb1 hx K hK0
     have hK := fun v w' hb => hK0 v w' (.inl hb)
     clear hx hKc hK0
     have hsz1 := hb1.size
     simp only [frameOf, fill, setSlot, sg, Nat.reduceBEq, if_true, if_false, Nat.reduceAdd, Nat.reduceEqDiff, HSL.out] at hK ⊢
     go_wp2_with (fail)
     exact hK _ _ (Below.refl _ _) rfl
    ·intro xq w1 hb1 hx K hK0
     have hK := fun v w' hb => hK0 v w' (.inr hb)
     obtain ⟨A40, d40, ra40, rb40, rc40, rd40, e40, f40_0, f40_1⟩ := hx 13 (by rfl) (by rfl)
     have e41 : xq 41 = .pointer (some ⟨w3.heap.size, 2, none⟩) := hx 14 (by rfl) (by rfl)
     have fig_0 : Holds w1 w3.heap.size 24 #[.int .i64 err, .int .i64 miss, sv] := hx 17 (by rfl) (by rfl)
     clear hx hKc hK0
     have hsz1 := hb1.size
     obtain ⟨c0, c1, c2⟩ := fig_0.c3
     obtain ⟨y0, y1, y2⟩ := fig_0.f3
     simp only [frameOf, fill, setSlot, sg, Nat.reduceBEq, if_true, if_false, Nat.reduceAdd, Nat.reduceEqDiff, HSL.out] at hK ⊢
     have E40 := Lib.hid e40
     have E41 := Lib.hid e41
     simp only [e40, e41] at hK ⊢
     clear e40 e41
     go_wp2_with (fail)
     refine hK undef _ ⟨(grow_far hb1 (p := ⟨w3.heap.size, 2, none⟩) (Nat.le_refl _) _), ?_⟩ ⟨_, _, _, _, _, _, (by have h := fig_0; exact zp4), f40_0.far (Nat.lt_succ_self _) _, f40_1⟩
     intro jq xq hd hne hv
     match jq, hd, hne, hv with
     | 0, _, _, hv => exact hv
     | 1, _, _, hv => exact hv
     | 2, _, _, hv => exact hv
     | 3, hd, _, _ => exact absurd hd (by decide)
     | 4, _, _, hv => exact hv
     | 5, hd, _, _ => exact absurd hd (by decide)
     | 6, _, _, hv => exact hv
     | 7, hd, _, _ => exact absurd hd (by decide)
     | 8, _, _, hv => exact hv
     | 9, _, _, hv => obtain ⟨x1, x2, x3, x4, x5, e1, h1, h2⟩ := hv; exact ⟨x1, x2, x3, x4, x5, e1, h1.far (by simp only [ne_eq]; omega) _, h2⟩
     | 10, _, _, hv => exact hv
     | 11, _, _, hv => exact hv
     | 12, hd, _, _ => exact absurd hd (by decide)
     | 13, _, _, hv => obtain ⟨a1, d1, x1, x2, x3, x4, e1, h1, h2⟩ := hv; exact ⟨a1, d1, x1, x2, x3, x4, e1, h1.far (Nat.lt_succ_self _) _, h2⟩
     | 14, _, _, hv => exact hv
     | 15, _, hne, _ => exact absurd rfl hne
     | 16, hd, _, _ => exact absurd hd (by decide)
     | 17, hd, _, _ => exact absurd hd (by decide)
     | 18, _, _, hv => exact OwnGrades.far hv (Nat.lt_succ_self _) _
     | _ + 19, _, _, _ => trivial
   ·intro xq w1 hb1 hx
    have e27 : xq 27 = .pointer (some ⟨w3.heap.size, 2, none⟩) := hx 0 (by decide)
    have e28 : xq 28 = sv := hx 1 (by decide)
    have e29 : xq 29 = .pointer (some ⟨S, 0, none⟩) := hx 2 (by decide)
    have e31 : xq 31 = .pointer (some ⟨S, 0, none⟩) := hx 4 (by decide)
    have e33 : xq 33 = .pointer (some ⟨S, 0, none⟩) := hx 6 (by decide)
    have e35 : xq 35 = .pointer (some ⟨S, 0, none⟩) := hx 8 (by decide)
    obtain ⟨rd36, mm36, ra36, rb36, rc36, e36, f36_0, f36_1, f36_2, f36_3, f36_4⟩ := hx 9 (by decide)
    have e37 : xq 37 = .int .i64 p := hx 10 (by decide)
    obtain ⟨ra38, rb38, rc38, rd38, e38, f38_0⟩ := hx 11 (by decide)
    obtain ⟨A40, d40, ra40, rb40, rc40, rd40, e40, f40_0, f40_1⟩ := hx 13 (by decide)
    have e41 : xq 41 = .pointer (some ⟨w3.heap.size, 2, none⟩) := hx 14 (by decide)
    obtain ⟨An15, dn15, ran15, rbn15, rcn15, rdn15, fn15_0, fn15_1, fn15_2⟩ := hx 15 (by decide)
    clear hx
    have hsz1 := hb1.size
    simp only [frameOf, fill, setSlot, sg, Nat.reduceBEq, if_true, if_false, Nat.reduceAdd, Nat.reduceEqDiff, HSL.out]
    simp only [e27, e28, e29, e31, e33, e35, e36, e37, e38, e40, e41, f36_1, f36_2, f36_3]
    clear e27 e28 e29 e31 e33 e35 e36 e37 e38 e40 e41 f36_1 f36_2 f36_3
    refine hKc _ _ ?_
    have HSx := Lib.hid f36_0
    have HGx := Lib.hid hb1
    have HCx := Lib.hid fn15_0
    have HOx := Lib.hid fn15_1
    have HQ := Lib.hid fn15_2
    have HAx := Lib.hid (HA0.out.grown HS0.out (HG3.out.trans hb1))
    have hszz := fn15_0.lt
    clear f36_0 fn15_0 fn15_1 fn15_2 f36_4 f40_0 f40_1 f38_0
    have p0 := HGO.out.p0
    have p1 := HGO.out.p1
    go_wp2_with fail
    refine (Below_any S A n c (tk1 + 1 + 1 + 1 + 1) mm36 (p + 1) _ HSx.out HAx.out hn (by omega) (by omega) (by omega)).mono ?_
    rintro e wz ⟨r, mz, rfl, r0, r1, _, hsz, gz⟩
    have hgz := gz.size
    go_wp2_with fail
    go_roundw
    case rel =>
     refine ⟨gs ++ [⟨ran15, rbn15, rcn15, rdn15, p⟩], p - r, _, _, mz, rfl, (by rw [List.length_append, List.length_singleton]; first | rfl | go_num | simp), (by rw [List.length_append, List.length_singleton]; omega), (GradesOk.less (HGO.out.snoc HQ.out) (by omega) (by omega)), (by rw [List.length_append, List.length_singleton]; omega), hsz, HCx.out.grown gz (by omega), HOx.out.sack gz (by omega), HGx.out.trans gz, by omega⟩
    case measure => simp [intOf]; omega
  ·obtain ⟨G, d, rfl, hdc, _⟩ := HO.out.at_
   have HA6 := Lib.hid (HA0.out.grown HS0.out (HG3.out.trans HGr.out))
   have hgl : gs.length ≤ 4 := by omega
   go_wp2_with fail
   refine (Mixed_any S A n c tk1 m1 _ HSr.out HA6.out hn (by omega)).mono ?_
   rintro e w7 ⟨m0, m1, m2, m3, tk2, m7, rfl, hm, ht2, hs7, g7⟩
   have HS7 := Lib.hid hs7
   have HG7 := Lib.hid (HGr.out.trans g7)
   have HA7 := Lib.hid (HA0.out.grown HS0.out (HG3.out.trans HG7.out))
   have HC7 := Lib.hid (HC.out.grown g7 (by omega))
   have HO7 := Lib.hid (HO.out.sack g7 (by omega))
   have HM := Lib.hid hm
   clear hs7 g7 hm HSr HC HO HGr HA6
   have hz7 := HC7.out.lt
   go_wp2_with fail
   refine (Below_any S A n c tk2 m7 900 _ (HS7.out.up zg) (HA7.out.up zg) hn (by omega) (by decide) (by decide)).mono ?_
   rintro e w8 ⟨emp, m8, rfl, em0, em1, _, hs8, g8⟩
   have HS8 := Lib.hid hs8
   have HG8 := Lib.hid ((only_below S (zg : Below w7.heap.size w7 _)).trans g8)
   have HA8 := Lib.hid (HA0.out.grown HS0.out (HG3.out.trans (HG7.out.trans HG8.out)))
   have Hm8 := Lib.hid (Holds.grown (zp4 : Holds _ w7.heap.size 28 #[.int .i64 m0, .int .i64 m1, .int .i64 m2, .int .i64 m3]) g8 (by omega))
   clear hs8 g8
   go_wp2_with fail
   refine (Below_any S A n c (tk2 + 1) m8 2000 _ HS8.out HA8.out hn (by omega) (by decide) (by decide)).mono ?_
   rintro e w9 ⟨fr, m9, rfl, fr0, fr1, _, hs9, g9⟩
   have HS9 := Lib.hid hs9
   have HG79 := Lib.hid (HG8.out.trans g9)
   have HG39 := Lib.hid (HG7.out.trans HG79.out)
   have HG9 := Lib.hid (HG3.out.trans HG39.out)
   have HA9 := Lib.hid (HA0.out.grown HS0.out HG9.out)
   have Hkm9 := Lib.hid (Hm8.out.grown g9 (by omega))
   have Hkg9 := Lib.hid (HC7.out.grown HG79.out (by omega))
   have HOG9 := Lib.hid (HO7.out.sack HG79.out (by omega))
   have Hrg9 := Lib.hid (Hrg3.out.grown HG39.out (by omega))
   have Hrc9 := Lib.hid (Hrc3.out.grown HG39.out (by omega))
   have Hrm9 := Lib.hid (Hrm3.out.grown HG39.out (by omega))
   clear hs9 g9 HS8 HG8 HA8 Hm8 HS7 HA7 HC7 HO7
   have hz9 := Hkm9.out.lt
   go_wp2_with fail
   refine (Below_any S A n c (tk2 + 1 + 1) m9 (handfuls + 1) _ (HS9.out.up zg) (HA9.out.up zg) hn (by omega) (by omega) (by omega)).mono ?_
   rintro e w10 ⟨cnt2, m10, rfl, ct0, ct1, _, hs10, g10⟩
   have HS10 := Lib.hid hs10
   have HG10 := Lib.hid ((only_below S (zg : Below w9.heap.size w9 _)).trans g10)
   have HC10 := Lib.hid (Holds.grown (zp4 : Holds _ w9.heap.size 27 #[.int .i64 (emp + fr), .int .i64 emp, .slice none 0 0]) g10 (by omega))
   obtain ⟨full, hfull⟩ : ∃ q, q = emp + fr := ⟨_, rfl⟩
   rw [← hfull] at HC10
   have hf0 : emp ≤ full := by omega
   have hf1 : full ≤ emp + 1999 := by omega
   clear hfull hs10 g10 HS9 HA9
   have hl10 := HC10.out.lt
   have hch : cnt2 ≤ handfuls := by omega
   go_wp2_with fail
   go_loopw [63] (fun v63 wr => MhRel w9 S A n c tk2 miss full emp m0 m1 m2 m3 cnt2 v63 wr) (fun v63 _ => (cnt2 - intOf v63).toNat)
   case atStart => exact ⟨[], .slice none 0 0, tk2 + 1 + 1 + 1, m10, rfl, ct0, by simp, by simp, HS10.out, HC10.out, OwnHands.nil _ _, HG10.out, hl10⟩
   case round =>
    obtain ⟨hs, sv, tk3, mm3, rfl, hlen2, hta, htk3, hSr, hC, hO, hGr, hszr2⟩ := hrel
    clear HS10 HG10 HC10 hl10
    have HT := Lib.hid hta
    have HSr := Lib.hid hSr
    have HC := Lib.hid hC
    have HO := Lib.hid hO
    have HGr := Lib.hid hGr
    clear hta hSr hC hO hGr
    by_cases hlt2 : (hs.length : Int) < cnt2
    ·obtain ⟨i0, hi, hz0, hz1, hz2⟩ := info_parts info_hand
     have hhl : hs.length ≤ 6 := by omega
     go_wp2_with fail
     rename_i Kc hKc
     have HSL := Lib.hid (show slotsOf [some 65, some 66, some 67, some 68, some 69, some 70, some 71, some 72, some 73, none] = [65, 66, 67, 68, 69, 70, 71, 72, 73] from rfl)
     refine wp_region_partsG (by kernel_rfl) [some 65, some 66, some 67, some 68, some 69, some 70, some 71, some 72, some 73, none] (fun jq xq w' => match jq with
      | 0 => xq 65 = .pointer (some ⟨w9.heap.size, 2, none⟩)
      | 1 => xq 66 = sv
      | 2 => xq 67 = .pointer (some ⟨S, 0, none⟩)
      | 3 => xq 68 = .agg #[.int .i64 err, .int .i64 miss, .slice G gs.length d]
      | 4 => xq 69 = .agg #[.int .i64 m0, .int .i64 m1, .int .i64 m2, .int .i64 m3]
      | 5 => ∃ sp h0 h1 h2 h3 tkx mm, xq 70 = .agg #[.int .i64 sp, .int .i64 h0, .int .i64 h1, .int .i64 h2, .int .i64 h3] ∧ TakenOk miss m0 m1 m2 m3 ⟨sp, h0, h1, h2, h3⟩ ∧ tkx ≤ tk3 + 8 ∧ Holds w' S 172 #[.slice A n c, .int .i64 ((tkx : Nat) : Int), .int .u32 mm]
      | 6 => ∃ b sp h0 h1 h2 h3, xq 71 = .slice (some ⟨b, 0, none⟩) 1 1 ∧ w9.heap.size < b ∧ Holds w' b 30 (Hf.cells ⟨sp, h0, h1, h2, h3⟩).toArray ∧ TakenOk miss m0 m1 m2 m3 ⟨sp, h0, h1, h2, h3⟩
      | 7 => ∃ A2 d2 sp h0 h1 h2 h3, xq 72 = .slice A2 (hs.length + 1) d2 ∧ OwnHands w' (w9.heap.size + 1) (.slice A2 (hs.length + 1) d2) (hs ++ [⟨sp, h0, h1, h2, h3⟩]) ∧ TakenOk miss m0 m1 m2 m3 ⟨sp, h0, h1, h2, h3⟩
      | 8 => xq 73 = .pointer (some ⟨w9.heap.size, 2, none⟩)
      | 9 => ∃ A2 d2 sp h0 h1 h2 h3, Holds w' w9.heap.size 27 #[.int .i64 full, .int .i64 emp, .slice A2 (hs.length + 1) d2] ∧ OwnHands w' (w9.heap.size + 1) (.slice A2 (hs.length + 1) d2) (hs ++ [⟨sp, h0, h1, h2, h3⟩]) ∧ TakenOk miss m0 m1 m2 m3 ⟨sp, h0, h1, h2, h3⟩
      | 10 => Holds w' S 172 #[.slice A n c, .int .i64 ((tk3 : Nat) : Int), .int .u32 mm3]
      | 11 => Holds w' w9.heap.size 27 #[.int .i64 full, .int .i64 emp, sv]
      | 12 => OwnHands w' (w9.heap.size + 1) sv hs
      | _ => True) [[65], [66], [67], [68], [69], [70], [71], [72], [73], [], [], [], []] [(5, 10), (7, 10), (9, 10), (7, 6), (9, 6), (7, 12), (9, 11)] (fun w' => w9.grownBy w' (some S)) (by kernel_rfl) ?_ ?_ (fun w' w'' hb h => only_up h hb) (HGr.out) ?_ ?_ ?_
     ·intro jq xq xq' wq h hv
      match jq, h, hv with
      | 0, h, hv => show xq' 65 = .pointer (some ⟨w9.heap.size, 2, none⟩); rw [← h 65 (by decide)]; exact hv
      | 1, h, hv => show xq' 66 = sv; rw [← h 66 (by decide)]; exact hv
      | 2, h, hv => show xq' 67 = .pointer (some ⟨S, 0, none⟩); rw [← h 67 (by decide)]; exact hv
      | 3, h, hv => show xq' 68 = .agg #[.int .i64 err, .int .i64 miss, .slice G gs.length d]; rw [← h 68 (by decide)]; exact hv
      | 4, h, hv => show xq' 69 = .agg #[.int .i64 m0, .int .i64 m1, .int .i64 m2, .int .i64 m3]; rw [← h 69 (by decide)]; exact hv
      | 5, h, hv => show ∃ sp h0 h1 h2 h3 tkx mm, xq' 70 = .agg #[.int .i64 sp, .int .i64 h0, .int .i64 h1, .int .i64 h2, .int .i64 h3] ∧ TakenOk miss m0 m1 m2 m3 ⟨sp, h0, h1, h2, h3⟩ ∧ tkx ≤ tk3 + 8 ∧ Holds wq S 172 #[.slice A n c, .int .i64 ((tkx : Nat) : Int), .int .u32 mm]; rw [← h 70 (by decide)]; exact hv
      | 6, h, hv => show ∃ b sp h0 h1 h2 h3, xq' 71 = .slice (some ⟨b, 0, none⟩) 1 1 ∧ w9.heap.size < b ∧ Holds wq b 30 (Hf.cells ⟨sp, h0, h1, h2, h3⟩).toArray ∧ TakenOk miss m0 m1 m2 m3 ⟨sp, h0, h1, h2, h3⟩; rw [← h 71 (by decide)]; exact hv
      | 7, h, hv => show ∃ A2 d2 sp h0 h1 h2 h3, xq' 72 = .slice A2 (hs.length + 1) d2 ∧ OwnHands wq (w9.heap.size + 1) (.slice A2 (hs.length + 1) d2) (hs ++ [⟨sp, h0, h1, h2, h3⟩]) ∧ TakenOk miss m0 m1 m2 m3 ⟨sp, h0, h1, h2, h3⟩; rw [← h 72 (by decide)]; exact hv
      | 8, h, hv => show xq' 73 = .pointer (some ⟨w9.heap.size, 2, none⟩); rw [← h 73 (by decide)]; exact hv
      | 9, h, hv => exact hv
      | 10, h, hv => exact hv
      | 11, h, hv => exact hv
      | 12, h, hv => exact hv
      | _ + 13, _, _ => trivial
     ·intro jq xq wq w' hb' hv
      match jq, hv with
      | 0, hv => exact hv
      | 1, hv => exact hv
      | 2, hv => exact hv
      | 3, hv => exact hv
      | 4, hv => exact hv
      | 5, ⟨b0, b1, b2, b3, b4, b5, b6, h0, h1, h2, h3⟩ => exact ⟨b0, b1, b2, b3, b4, b5, b6, h0, h1, h2, h3.up hb'⟩
      | 6, ⟨b0, b1, b2, b3, b4, b5, h0, h1, h2, h3⟩ => exact ⟨b0, b1, b2, b3, b4, b5, h0, h1, h2.up hb', h3⟩
      | 7, ⟨b0, b1, b2, b3, b4, b5, b6, h0, h1, h2⟩ => exact ⟨b0, b1, b2, b3, b4, b5, b6, h0, h1.up hb', h2⟩
      | 8, hv => exact hv
      | 9, ⟨b0, b1, b2, b3, b4, b5, b6, h0, h1, h2⟩ => exact ⟨b0, b1, b2, b3, b4, b5, b6, h0.up hb', h1.up hb', h2⟩
      | 10, h0 => exact h0.up hb'
      | 11, h0 => exact h0.up hb'
      | 12, h0 => exact h0.up hb'
      | _ + 13, _ => trivial
     ·intro jq hj
      match jq, hj with
      | 0, hj => exact absurd hj (by decide)
      | 1, hj => exact absurd hj (by decide)
      | 2, hj => exact absurd hj (by decide)
      | 3, hj => exact absurd hj (by decide)
      | 4, hj => exact absurd hj (by decide)
      | 5, hj => exact absurd hj (by decide)
      | 6, hj => exact absurd hj (by decide)
      | 7, hj => exact absurd hj (by decide)
      | 8, hj => exact absurd hj (by decide)
      | 9, hj => exact absurd hj (by decide)
      | 10, _ => exact HSr.out
      | 11, _ => exact HC.out
      | 12, _ => exact HO.out
      | _ + 13, _ => trivial
     ·refine ⟨?_, ?_, ?_, ?_, ?_, ?_, ?_, ?_, ?_, ?_, trivial⟩
      ·intro xq w1 hb1 hx K hK0
       have hK := fun v w' hb => hK0 v w' (.inl hb)
       clear hx hKc hK0
       have hsz1 := hb1.size
       simp only [frameOf, fill, setSlot, sg, Nat.reduceBEq, if_true, if_false, Nat.reduceAdd, Nat.reduceEqDiff, HSL.out] at hK ⊢
       go_wp2_with (fail)
       exact hK _ _ (Below.refl _ _) rfl
      ·intro xq w1 hb1 hx K hK0
       have hK := fun v w' hb => hK0 v w' (.inl hb)
       have e65 : xq 65 = .pointer (some ⟨w9.heap.size, 2, none⟩) := hx 0 (by rfl) (by rfl)
       have fig_0 : Holds w1 w9.heap.size 27 #[.int .i64 full, .int .i64 emp, sv] := hx 11 (by rfl) (by rfl)
       clear hx hKc hK0
       have hsz1 := hb1.size
       obtain ⟨c0, c1, c2⟩ := fig_0.c3
       simp only [frameOf, fill, setSlot, sg, Nat.reduceBEq, if_true, if_false, Nat.reduceAdd, Nat.reduceEqDiff, HSL.out] at hK ⊢
       simp only [e65] at hK ⊢
       clear e65
       go_wp2_with (fail)
       exact hK _ _ (Below.refl _ _) rfl
      ·intro xq w1 hb1 hx K hK0
       have hK := fun v w' hb => hK0 v w' (.inl hb)
       clear hx hKc hK0
       have hsz1 := hb1.size
       simp only [frameOf, fill, setSlot, sg, Nat.reduceBEq, if_true, if_false, Nat.reduceAdd, Nat.reduceEqDiff, HSL.out] at hK ⊢
       go_wp2_with (fail)
       exact hK _ _ (Below.refl _ _) rfl
      ·intro xq w1 hb1 hx K hK0
       have hK := fun v w' hb => hK0 v w' (.inl hb)
       clear hx hKc hK0
       have hsz1 := hb1.size
       have hkg := Hkg9.out.grown hb1 (by omega)
       obtain ⟨kg0, kg1, kg2⟩ := hkg.c3
       clear hkg
       simp only [frameOf, fill, setSlot, sg, Nat.reduceBEq, if_true, if_false, Nat.reduceAdd, Nat.reduceEqDiff, HSL.out] at hK ⊢
       go_wp2_with (fail)
       exact hK _ _ (Below.refl _ _) rfl
      ·intro xq w1 hb1 hx K hK0
       have hK := fun v w' hb => hK0 v w' (.inl hb)
       clear hx hKc hK0
       have hsz1 := hb1.size
       have hkm := Hkm9.out.grown hb1 (by omega)
       obtain ⟨km0, km1, km2, km3⟩ := hkm.c4
       clear hkm
       simp only [frameOf, fill, setSlot, sg, Nat.reduceBEq, if_true, if_false, Nat.reduceAdd, Nat.reduceEqDiff, HSL.out] at hK ⊢
       go_wp2_with (fail)
       exact hK _ _ (Below.refl _ _) rfl
      ·intro xq w1 hb1 hx K hK0
       have hK := fun v w' hb => hK0 v w' (.inr hb)
       have e67 : xq 67 = .pointer (some ⟨S, 0, none⟩) := hx 2 (by rfl) (by rfl)
       have e68 : xq 68 = .agg #[.int .i64 err, .int .i64 miss, .slice G gs.length d] := hx 3 (by rfl) (by rfl)
       have e69 : xq 69 = .agg #[.int .i64 m0, .int .i64 m1, .int .i64 m2, .int .i64 m3] := hx 4 (by rfl) (by rfl)
       have fiS_0 : Holds w1 S 172 #[.slice A n c, .int .i64 ((tk3 : Nat) : Int), .int .u32 mm3] := hx 10 (by rfl) (by rfl)
       clear hx hKc hK0
       have hsz1 := hb1.size
       simp only [frameOf, fill, setSlot, sg, Nat.reduceBEq, if_true, if_false, Nat.reduceAdd, Nat.reduceEqDiff, HSL.out] at hK ⊢
       simp only [e67, e68, e69] at hK ⊢
       clear e67 e68 e69
       go_wp2_with ((go_at_call 69; (refine (Taken_any S A n c tk3 mm3 err miss G gs.length d m0 m1 m2 m3 HM.out i0m i1m _ fiS_0 (HA0.out.grown HS0.out (HG9.out.trans hb1)) hn (by omega)).mono ?_); rintro e w2 ⟨⟨sp, h0, h1, h2, h3⟩, tkx, mm, rfl, hok, htk, hs_, g⟩; dsimp only))
       refine hK _ _ ⟨(hb1.trans g), ?_⟩ ⟨sp, h0, h1, h2, h3, tkx, mm, rfl, hok, htk, hs_⟩
       intro jq xq hd hne hv
       match jq, hd, hne, hv with
       | 0, _, _, hv => exact hv
       | 1, _, _, hv => exact hv
       | 2, _, _, hv => exact hv
       | 3, _, _, hv => exact hv
       | 4, _, _, hv => exact hv
       | 5, _, hne, _ => exact absurd rfl hne
       | 6, _, _, hv => obtain ⟨b, x1, x2, x3, x4, x5, e1, hbb, h1, h2⟩ := hv; exact ⟨b, x1, x2, x3, x4, x5, e1, hbb, h1.grown g (by omega), h2⟩
       | 7, _, _, hv => obtain ⟨a1, d1, x1, x2, x3, x4, x5, e1, h1, h2⟩ := hv; exact ⟨a1, d1, x1, x2, x3, x4, x5, e1, h1.sack g (by omega), h2⟩
       | 8, _, _, hv => exact hv
       | 9, _, _, hv => obtain ⟨a1, d1, x1, x2, x3, x4, x5, h0, h1, h2⟩ := hv; exact ⟨a1, d1, x1, x2, x3, x4, x5, h0.grown g (by omega), h1.sack g (by omega), h2⟩
       | 10, hd, _, _ => exact absurd hd (by decide)
       | 11, _, _, hv => exact Holds.grown hv g (by omega)
       | 12, _, _, hv => exact OwnHands.sack hv g (by omega)
       | _ + 13, _, _, _ => trivial
      ·intro xq w1 hb1 hx K hK0
       have hK := fun v w' hb => hK0 v w' (.inl hb)
       obtain ⟨sp70, h070, h170, h270, h370, tkx70, mm70, e70, f70_0, f70_1, f70_2⟩ := hx 5 (by rfl) (by rfl)
       have fig_0 : Holds w1 w9.heap.size 27 #[.int .i64 full, .int .i64 emp, sv] := hx 11 (by rfl) (by rfl)
       clear hx hKc hK0
       have hsz1 := hb1.size
       have hltg := fig_0.lt
       simp only [frameOf, fill, setSlot, sg, Nat.reduceBEq, if_true, if_false, Nat.reduceAdd, Nat.reduceEqDiff, HSL.out] at hK ⊢
       simp only [e70] at hK ⊢
       clear e70
       go_wp2_with (fail)
       exact hK _ _ ((Below.refl _ _).alloc (Nat.le_refl _) _) ⟨_, _, _, _, _, _, rfl, (by omega), Holds.new _ _ _, f70_0⟩
      ·intro xq w1 hb1 hx K hK0
       have hK := fun v w' hb => hK0 v w' (.inr hb)
       have e66 : xq 66 = sv := hx 1 (by rfl) (by rfl)
       obtain ⟨b71, sp71, h071, h171, h271, h371, e71, f71_0, f71_1, f71_2⟩ := hx 6 (by rfl) (by rfl)
       have fio_0 : OwnHands w1 (w9.heap.size + 1) sv hs := hx 12 (by rfl) (by rfl)
       have fig_0 : Holds w1 w9.heap.size 27 #[.int .i64 full, .int .i64 emp, sv] := hx 11 (by rfl) (by rfl)
       clear hx hKc hK0
       have hsz1 := hb1.size
       have hltg := fig_0.lt
       have HO1 : Hid (w1.ownsRow (w9.heap.size + 1) 30 5 sv hs.length (hs.flatMap Hf.cells)) := Lib.hid fio_0
       simp only [frameOf, fill, setSlot, sg, Nat.reduceBEq, if_true, if_false, Nat.reduceAdd, Nat.reduceEqDiff, HSL.out] at hK ⊢
       simp only [e66, e71] at hK ⊢
       clear e66 e71
       go_wp2_with ((at_builtin; (refine wpList_append_own _ rfl _ _ 25 rfl (w9.heap.size + 1) 30 i0 _ 5 40 und_hands hi hz0 hz1 hz2 rfl (by decide) _ _ _ rfl HO1.out ⟨b71, 0, none⟩ 1 1 (Hf.cells ⟨sp71, h071, h171, h271, h371⟩) rfl rfl (holds_news f71_1) (hand_one _) (by unfold maxLen; omega) (by omega) (by omega) ?_); intro v5 w5 hown5 hgrow5 _; obtain ⟨A5, c5, rfl, _⟩ := row5_val hown5; have ho5 := OwnHands.snoc (h := ⟨sp71, h071, h171, h271, h371⟩) hown5; have HO5 := Lib.hid ho5; have HG5 := Lib.hid hgrow5; clear hown5 hgrow5 ho5))
       refine hK _ _ ⟨(grow_row hb1 HG5.out (fun k hk => Nat.le_trans (by omega) (row5_block HO1.out k hk))), ?_⟩ ⟨_, _, _, _, _, _, _, rfl, HO5.out, f71_2⟩
       intro jq xq hd hne hv
       match jq, hd, hne, hv with
       | 0, _, _, hv => exact hv
       | 1, _, _, hv => exact hv
       | 2, _, _, hv => exact hv
       | 3, _, _, hv => exact hv
       | 4, _, _, hv => exact hv
       | 5, _, _, hv => obtain ⟨x1, x2, x3, x4, x5, x6, x7, e1, h1, h2, h3⟩ := hv; exact ⟨x1, x2, x3, x4, x5, x6, x7, e1, h1, h2, h3.row HG5.out (fun k hk => Nat.lt_of_lt_of_le (by omega) (row5_block HO1.out k hk))⟩
       | 6, hd, _, _ => exact absurd hd (by decide)
       | 7, _, hne, _ => exact absurd rfl hne
       | 8, _, _, hv => exact hv
       | 9, _, _, hv => obtain ⟨_, _, _, _, _, _, _, h9, _⟩ := hv; exact (row_over h9 fig_0 HO1.out rfl).elim
       | 10, hd, _, _ => exact absurd hd (by decide)
       | 11, _, _, hv => exact Holds.row hv HG5.out (fun k hk => Nat.lt_of_lt_of_le (by omega) (row5_block HO1.out k hk))
       | 12, hd, _, _ => exact absurd hd (by decide)
       | _ + 13, _, _, _ => trivial
      ·intro xq w1 hb1 hx K hK0
       have hK := fun v w' hb => hK0 v w' (.inl hb)
       clear hx hKc hK0
       have hsz1 := hb1.size
       simp only [frameOf, fill, setSlot, sg, Nat.reduceBEq, if_true, if_false, Nat.reduceAdd, Nat.reduceEqDiff, HSL.out] at hK ⊢
       go_wp2_with (fail)
       exact hK _ _ (Below.refl _ _) rfl
      ·intro xq w1 hb1 hx K hK0
       have hK := fun v w' hb => hK0 v w' (.inr hb)
       obtain ⟨A272, d272, sp72, h072, h172, h272, h372, e72, f72_0, f72_1⟩ := hx 7 (by rfl) (by rfl)
       have e73 : xq 73 = .pointer (some ⟨w9.heap.size, 2, none⟩) := hx 8 (by rfl) (by rfl)
       have fig_0 : Holds w1 w9.heap.size 27 #[.int .i64 full, .int .i64 emp, sv] := hx 11 (by rfl) (by rfl)
       clear hx hKc hK0
       have hsz1 := hb1.size
       obtain ⟨c0, c1, c2⟩ := fig_0.c3
       obtain ⟨y0, y1, y2⟩ := fig_0.f3
       simp only [frameOf, fill, setSlot, sg, Nat.reduceBEq, if_true, if_false, Nat.reduceAdd, Nat.reduceEqDiff, HSL.out] at hK ⊢
       have E72 := Lib.hid e72
       have E73 := Lib.hid e73
       simp only [e72, e73] at hK ⊢
       clear e72 e73
       go_wp2_with (fail)
       refine hK undef _ ⟨(grow_far hb1 (p := ⟨w9.heap.size, 2, none⟩) (Nat.le_refl _) _), ?_⟩ ⟨_, _, _, _, _, _, _, (by have h := fig_0; exact zp4), f72_0.far (Nat.lt_succ_self _) _, f72_1⟩
       intro jq xq hd hne hv
       match jq, hd, hne, hv with
       | 0, _, _, hv => exact hv
       | 1, _, _, hv => exact hv
       | 2, _, _, hv => exact hv
       | 3, _, _, hv => exact hv
       | 4, _, _, hv => exact hv
       | 5, _, _, hv => obtain ⟨x1, x2, x3, x4, x5, x6, x7, e1, h1, h2, h3⟩ := hv; exact ⟨x1, x2, x3, x4, x5, x6, x7, e1, h1, h2, h3.far (by simp only [ne_eq]; omega) _⟩
       | 6, hd, _, _ => exact absurd hd (by decide)
       | 7, _, _, hv => obtain ⟨a1, d1, x1, x2, x3, x4, x5, e1, h1, h2⟩ := hv; exact ⟨a1, d1, x1, x2, x3, x4, x5, e1, h1.far (Nat.lt_succ_self _) _, h2⟩
       | 8, _, _, hv => exact hv
       | 9, _, hne, _ => exact absurd rfl hne
       | 10, hd, _, _ => exact absurd hd (by decide)
       | 11, hd, _, _ => exact absurd hd (by decide)
       | 12, _, _, hv => exact OwnHands.far hv (Nat.lt_succ_self _) _
       | _ + 13, _, _, _ => trivial
     ·intro xq w1 hb1 hx
      have e65 : xq 65 = .pointer (some ⟨w9.heap.size, 2, none⟩) := hx 0 (by decide)
      have e66 : xq 66 = sv := hx 1 (by decide)
      have e67 : xq 67 = .pointer (some ⟨S, 0, none⟩) := hx 2 (by decide)
      have e68 : xq 68 = .agg #[.int .i64 err, .int .i64 miss, .slice G gs.length d] := hx 3 (by decide)
      have e69 : xq 69 = .agg #[.int .i64 m0, .int .i64 m1, .int .i64 m2, .int .i64 m3] := hx 4 (by decide)
      obtain ⟨sp70, h070, h170, h270, h370, tkx70, mm70, e70, f70_0, f70_1, f70_2⟩ := hx 5 (by decide)
      obtain ⟨A272, d272, sp72, h072, h172, h272, h372, e72, f72_0, f72_1⟩ := hx 7 (by decide)
      have e73 : xq 73 = .pointer (some ⟨w9.heap.size, 2, none⟩) := hx 8 (by decide)
      obtain ⟨A2n9, d2n9, spn9, h0n9, h1n9, h2n9, h3n9, fn9_0, fn9_1, fn9_2⟩ := hx 9 (by decide)
      clear hx
      have hsz1 := hb1.size
      simp only [frameOf, fill, setSlot, sg, Nat.reduceBEq, if_true, if_false, Nat.reduceAdd, Nat.reduceEqDiff, HSL.out]
      simp only [e65, e66, e67, e68, e69, e70, e72, e73]
      clear e65 e66 e67 e68 e69 e70 e72 e73
      refine hKc _ _ ?_
      have hszz := fn9_0.lt
      go_wp2_with fail
      go_roundw
      case rel =>
       refine ⟨hs ++ [⟨spn9, h0n9, h1n9, h2n9, h3n9⟩], _, tkx70, mm70, (by rw [List.length_append, List.length_singleton]; first | rfl | go_num | simp), (by rw [List.length_append, List.length_singleton]; omega), ?_, (by rw [List.length_append, List.length_singleton]; omega), f70_2, fn9_0, fn9_1, hb1, by omega⟩
       intro z hz
       rcases List.mem_append.1 hz with hz | hz
       ·exact HT.out z hz
       ·rw [List.mem_singleton] at hz; subst hz; exact fn9_2
      case measure => simp [intOf]; omega
    ·obtain ⟨H, q, rfl, hqc, _⟩ := HO.out.at_
     have HMO : Hid (MadeOk err miss full emp m0 m1 m2 m3 gs hs) := Lib.hid ⟨er0, by omega, i0m, by omega, em0, by omega, hf0, hf1, HM.out, ⟨_, HGO.out⟩, HT.out⟩
     have Hkgr := Lib.hid (Hkg9.out.grown HGr.out (by omega))
     have Hkmr := Lib.hid (Hkm9.out.grown HGr.out (by omega))
     have Hrgr := Lib.hid (Hrg9.out.grown HGr.out (by omega))
     have Hrcr := Lib.hid (Hrc9.out.grown HGr.out (by omega))
     have Hrmr := Lib.hid (Hrm9.out.grown HGr.out (by omega))
     have HOGr := Lib.hid (HOG9.out.sack HGr.out (by omega))
     go_wp2_with fail
     rename_i Kc hKc
     have HSL := Lib.hid (show slotsOf [some 75, some 76, some 77, none, none, none] = [75, 76, 77] from rfl)
     refine wp_region_partsG (by kernel_rfl) [some 75, some 76, some 77, none, none, none] (fun jq xq w' => match jq with
      | 0 => xq 75 = .agg #[.int .i64 err, .int .i64 miss, .slice G gs.length d]
      | 1 => xq 76 = .agg #[.int .i64 full, .int .i64 emp, .slice H hs.length q]
      | 2 => xq 77 = .agg #[.int .i64 m0, .int .i64 m1, .int .i64 m2, .int .i64 m3]
      | 3 => Holds w' w.heap.size 24 #[.int .i64 err, .int .i64 miss, .slice G gs.length d]
      | 4 => Holds w' (w.heap.size + 1) 27 #[.int .i64 full, .int .i64 emp, .slice H hs.length q]
      | 5 => Holds w' (w.heap.size + 1 + 1) 28 #[.int .i64 m0, .int .i64 m1, .int .i64 m2, .int .i64 m3]
      | 6 => Holds w' w3.heap.size 24 #[.int .i64 err, .int .i64 miss, .slice G gs.length d]
      | 7 => Holds w' w9.heap.size 27 #[.int .i64 full, .int .i64 emp, .slice H hs.length q]
      | 8 => Holds w' w7.heap.size 28 #[.int .i64 m0, .int .i64 m1, .int .i64 m2, .int .i64 m3]
      | 9 => Holds w' w.heap.size 24 #[.int .i64 0, .int .i64 0, .slice none 0 0]
      | 10 => Holds w' (w.heap.size + 1) 27 #[.int .i64 0, .int .i64 0, .slice none 0 0]
      | 11 => Holds w' (w.heap.size + 1 + 1) 28 #[.int .i64 0, .int .i64 0, .int .i64 0, .int .i64 0]
      | 12 => OwnGrades w' (w3.heap.size + 1) (.slice G gs.length d) gs
      | 13 => OwnHands w' (w9.heap.size + 1) (.slice H hs.length q) hs
      | _ => True) [[75], [76], [77], [], [], [], [], [], [], [], [], [], [], []] [(3, 9), (4, 10), (5, 11)] (Below w.heap.size wr) (by kernel_rfl) ?_ ?_ (fun w' w'' hb h => h.trans (hb.mono (Nat.le_trans (by omega) h.size))) (Below.refl _ _) ?_ ?_ ?_
     ·intro jq xq xq' wq h hv
      match jq, h, hv with
      | 0, h, hv => show xq' 75 = .agg #[.int .i64 err, .int .i64 miss, .slice G gs.length d]; rw [← h 75 (by decide)]; exact hv
      | 1, h, hv => show xq' 76 = .agg #[.int .i64 full, .int .i64 emp, .slice H hs.length q]; rw [← h 76 (by decide)]; exact hv
      | 2, h, hv => show xq' 77 = .agg #[.int .i64 m0, .int .i64 m1, .int .i64 m2, .int .i64 m3]; rw [← h 77 (by decide)]; exact hv
      | 3, h, hv => exact hv
      | 4, h, hv => exact hv
      | 5, h, hv => exact hv
      | 6, h, hv => exact hv
      | 7, h, hv => exact hv
      | 8, h, hv => exact hv
      | 9, h, hv => exact hv
      | 10, h, hv => exact hv
      | 11, h, hv => exact hv
      | 12, h, hv => exact hv
      | 13, h, hv => exact hv
      | _ + 14, _, _ => trivial
     ·intro jq xq wq w' hb' hv
      match jq, hv with
      | 0, hv => exact hv
      | 1, hv => exact hv
      | 2, hv => exact hv
      | 3, h0 => exact h0.up hb'
      | 4, h0 => exact h0.up hb'
      | 5, h0 => exact h0.up hb'
      | 6, h0 => exact h0.up hb'
      | 7, h0 => exact h0.up hb'
      | 8, h0 => exact h0.up hb'
      | 9, h0 => exact h0.up hb'
      | 10, h0 => exact h0.up hb'
      | 11, h0 => exact h0.up hb'
      | 12, h0 => exact h0.up hb'
      | 13, h0 => exact h0.up hb'
      | _ + 14, _ => trivial
     ·intro jq hj
      match jq, hj with
      | 0, hj => exact absurd hj (by decide)
      | 1, hj => exact absurd hj (by decide)
      | 2, hj => exact absurd hj (by decide)
      | 3, hj => exact absurd hj (by decide)
      | 4, hj => exact absurd hj (by decide)
      | 5, hj => exact absurd hj (by decide)
      | 6, _ => exact Hkgr.out
      | 7, _ => exact HC.out
      | 8, _ => exact Hkmr.out
      | 9, _ => exact Hrgr.out
      | 10, _ => exact Hrcr.out
      | 11, _ => exact Hrmr.out
      | 12, _ => exact HOGr.out
      | 13, _ => exact HO.out
      | _ + 14, _ => trivial
     ·refine ⟨?_, ?_, ?_, ?_, ?_, ?_, trivial⟩
      ·intro xq w1 hb1 hx K hK0
       have hK := fun v w' hb => hK0 v w' (.inl hb)
       have fig_0 : Holds w1 w3.heap.size 24 #[.int .i64 err, .int .i64 miss, .slice G gs.length d] := hx 6 (by rfl) (by rfl)
       clear hx hKc hK0
       have hsz1 := hb1.size
       obtain ⟨u0, u1, u2⟩ := fig_0.c3
       simp only [frameOf, fill, setSlot, sg, Nat.reduceBEq, if_true, if_false, Nat.reduceAdd, Nat.reduceEqDiff, HSL.out] at hK ⊢
       go_wp2_with (fail)
       exact hK _ _ (Below.refl _ _) rfl
      ·intro xq w1 hb1 hx K hK0
       have hK := fun v w' hb => hK0 v w' (.inl hb)
       have fic_0 : Holds w1 w9.heap.size 27 #[.int .i64 full, .int .i64 emp, .slice H hs.length q] := hx 7 (by rfl) (by rfl)
       clear hx hKc hK0
       have hsz1 := hb1.size
       obtain ⟨u0, u1, u2⟩ := fic_0.c3
       simp only [frameOf, fill, setSlot, sg, Nat.reduceBEq, if_true, if_false, Nat.reduceAdd, Nat.reduceEqDiff, HSL.out] at hK ⊢
       go_wp2_with (fail)
       exact hK _ _ (Below.refl _ _) rfl
      ·intro xq w1 hb1 hx K hK0
       have hK := fun v w' hb => hK0 v w' (.inl hb)
       have fim_0 : Holds w1 w7.heap.size 28 #[.int .i64 m0, .int .i64 m1, .int .i64 m2, .int .i64 m3] := hx 8 (by rfl) (by rfl)
       clear hx hKc hK0
       have hsz1 := hb1.size
       obtain ⟨u0, u1, u2, u3⟩ := fim_0.c4
       simp only [frameOf, fill, setSlot, sg, Nat.reduceBEq, if_true, if_false, Nat.reduceAdd, Nat.reduceEqDiff, HSL.out] at hK ⊢
       go_wp2_with (fail)
       exact hK _ _ (Below.refl _ _) rfl
      ·intro xq w1 hb1 hx K hK0
       have hK := fun v w' hb => hK0 v w' (.inr hb)
       have e75 : xq 75 = .agg #[.int .i64 err, .int .i64 miss, .slice G gs.length d] := hx 0 (by rfl) (by rfl)
       have firg_0 : Holds w1 w.heap.size 24 #[.int .i64 0, .int .i64 0, .slice none 0 0] := hx 9 (by rfl) (by rfl)
       clear hx hKc hK0
       have hsz1 := hb1.size
       obtain ⟨v0, v1, v2⟩ := firg_0.c3
       obtain ⟨y0, y1, y2⟩ := firg_0.f3
       simp only [frameOf, fill, setSlot, sg, Nat.reduceBEq, if_true, if_false, Nat.reduceAdd, Nat.reduceEqDiff, HSL.out] at hK ⊢
       have E75 := Lib.hid e75
       simp only [e75] at hK ⊢
       clear e75
       go_wp2_with (fail)
       refine hK undef _ ⟨zg, ?_⟩ (by have h := firg_0; exact zp4)
       intro jq xq hd hne hv
       match jq, hd, hne, hv with
       | 0, _, _, hv => exact hv
       | 1, _, _, hv => exact hv
       | 2, _, _, hv => exact hv
       | 3, _, hne, _ => exact absurd rfl hne
       | 4, _, _, hv => exact ((((hv : Holds _ _ _ _).far (by simp only [ne_eq]; omega) _).far (by simp only [ne_eq]; omega) _).far (by simp only [ne_eq]; omega) _)
       | 5, _, _, hv => exact ((((hv : Holds _ _ _ _).far (by simp only [ne_eq]; omega) _).far (by simp only [ne_eq]; omega) _).far (by simp only [ne_eq]; omega) _)
       | 6, _, _, hv => exact ((((hv : Holds _ _ _ _).far (by simp only [ne_eq]; omega) _).far (by simp only [ne_eq]; omega) _).far (by simp only [ne_eq]; omega) _)
       | 7, _, _, hv => exact ((((hv : Holds _ _ _ _).far (by simp only [ne_eq]; omega) _).far (by simp only [ne_eq]; omega) _).far (by simp only [ne_eq]; omega) _)
       | 8, _, _, hv => exact ((((hv : Holds _ _ _ _).far (by simp only [ne_eq]; omega) _).far (by simp only [ne_eq]; omega) _).far (by simp only [ne_eq]; omega) _)
       | 9, hd, _, _ => exact absurd hd (by decide)
       | 10, _, _, hv => exact ((((hv : Holds _ _ _ _).far (by simp only [ne_eq]; omega) _).far (by simp only [ne_eq]; omega) _).far (by simp only [ne_eq]; omega) _)
       | 11, _, _, hv => exact ((((hv : Holds _ _ _ _).far (by simp only [ne_eq]; omega) _).far (by simp only [ne_eq]; omega) _).far (by simp only [ne_eq]; omega) _)
       | 12, _, _, hv => exact ((((hv : OwnGrades _ _ _ _).far (by first | exact Nat.lt_succ_self _ | (simp; done) | (simp; omega) | omega) _).far (by first | exact Nat.lt_succ_self _ | (simp; done) | (simp; omega) | omega) _).far (by first | exact Nat.lt_succ_self _ | (simp; done) | (simp; omega) | omega) _)
       | 13, _, _, hv => exact ((((hv : OwnHands _ _ _ _).far (by first | exact Nat.lt_succ_self _ | (simp; done) | (simp; omega) | omega) _).far (by first | exact Nat.lt_succ_self _ | (simp; done) | (simp; omega) | omega) _).far (by first | exact Nat.lt_succ_self _ | (simp; done) | (simp; omega) | omega) _)
       | _ + 14, _, _, _ => trivial
      ·intro xq w1 hb1 hx K hK0
       have hK := fun v w' hb => hK0 v w' (.inr hb)
       have e76 : xq 76 = .agg #[.int .i64 full, .int .i64 emp, .slice H hs.length q] := hx 1 (by rfl) (by rfl)
       have firc_0 : Holds w1 (w.heap.size + 1) 27 #[.int .i64 0, .int .i64 0, .slice none 0 0] := hx 10 (by rfl) (by rfl)
       clear hx hKc hK0
       have hsz1 := hb1.size
       obtain ⟨v0, v1, v2⟩ := firc_0.c3
       obtain ⟨y0, y1, y2⟩ := firc_0.f3
       simp only [frameOf, fill, setSlot, sg, Nat.reduceBEq, if_true, if_false, Nat.reduceAdd, Nat.reduceEqDiff, HSL.out] at hK ⊢
       have E76 := Lib.hid e76
       simp only [e76] at hK ⊢
       clear e76
       go_wp2_with (fail)
       refine hK undef _ ⟨zg, ?_⟩ (by have h := firc_0; exact zp4)
       intro jq xq hd hne hv
       match jq, hd, hne, hv with
       | 0, _, _, hv => exact hv
       | 1, _, _, hv => exact hv
       | 2, _, _, hv => exact hv
       | 3, _, _, hv => exact ((((hv : Holds _ _ _ _).far (by simp only [ne_eq]; omega) _).far (by simp only [ne_eq]; omega) _).far (by simp only [ne_eq]; omega) _)
       | 4, _, hne, _ => exact absurd rfl hne
       | 5, _, _, hv => exact ((((hv : Holds _ _ _ _).far (by simp only [ne_eq]; omega) _).far (by simp only [ne_eq]; omega) _).far (by simp only [ne_eq]; omega) _)
       | 6, _, _, hv => exact ((((hv : Holds _ _ _ _).far (by simp only [ne_eq]; omega) _).far (by simp only [ne_eq]; omega) _).far (by simp only [ne_eq]; omega) _)
       | 7, _, _, hv => exact ((((hv : Holds _ _ _ _).far (by simp only [ne_eq]; omega) _).far (by simp only [ne_eq]; omega) _).far (by simp only [ne_eq]; omega) _)
       | 8, _, _, hv => exact ((((hv : Holds _ _ _ _).far (by simp only [ne_eq]; omega) _).far (by simp only [ne_eq]; omega) _).far (by simp only [ne_eq]; omega) _)
       | 9, _, _, hv => exact ((((hv : Holds _ _ _ _).far (by simp only [ne_eq]; omega) _).far (by simp only [ne_eq]; omega) _).far (by simp only [ne_eq]; omega) _)
       | 10, hd, _, _ => exact absurd hd (by decide)
       | 11, _, _, hv => exact ((((hv : Holds _ _ _ _).far (by simp only [ne_eq]; omega) _).far (by simp only [ne_eq]; omega) _).far (by simp only [ne_eq]; omega) _)
       | 12, _, _, hv => exact ((((hv : OwnGrades _ _ _ _).far (by first | exact Nat.lt_succ_self _ | (simp; done) | (simp; omega) | omega) _).far (by first | exact Nat.lt_succ_self _ | (simp; done) | (simp; omega) | omega) _).far (by first | exact Nat.lt_succ_self _ | (simp; done) | (simp; omega) | omega) _)
       | 13, _, _, hv => exact ((((hv : OwnHands _ _ _ _).far (by first | exact Nat.lt_succ_self _ | (simp; done) | (simp; omega) | omega) _).far (by first | exact Nat.lt_succ_self _ | (simp; done) | (simp; omega) | omega) _).far (by first | exact Nat.lt_succ_self _ | (simp; done) | (simp; omega) | omega) _)
       | _ + 14, _, _, _ => trivial
      ·intro xq w1 hb1 hx K hK0
       have hK := fun v w' hb => hK0 v w' (.inr hb)
       have e77 : xq 77 = .agg #[.int .i64 m0, .int .i64 m1, .int .i64 m2, .int .i64 m3] := hx 2 (by rfl) (by rfl)
       have firm_0 : Holds w1 (w.heap.size + 1 + 1) 28 #[.int .i64 0, .int .i64 0, .int .i64 0, .int .i64 0] := hx 11 (by rfl) (by rfl)
       clear hx hKc hK0
       have hsz1 := hb1.size
       obtain ⟨v0, v1, v2, v3⟩ := firm_0.c4
       obtain ⟨y0, y1, y2, y3⟩ := firm_0.f4
       simp only [frameOf, fill, setSlot, sg, Nat.reduceBEq, if_true, if_false, Nat.reduceAdd, Nat.reduceEqDiff, HSL.out] at hK ⊢
       have E77 := Lib.hid e77
       simp only [e77] at hK ⊢
       clear e77
       go_wp2_with (fail)
       refine hK undef _ ⟨zg, ?_⟩ (by have h := firm_0; exact zp7)
       intro jq xq hd hne hv
       match jq, hd, hne, hv with
       | 0, _, _, hv => exact hv
       | 1, _, _, hv => exact hv
       | 2, _, _, hv => exact hv
       | 3, _, _, hv => exact (((((hv : Holds _ _ _ _).far (by simp only [ne_eq]; omega) _).far (by simp only [ne_eq]; omega) _).far (by simp only [ne_eq]; omega) _).far (by simp only [ne_eq]; omega) _)
       | 4, _, _, hv => exact (((((hv : Holds _ _ _ _).far (by simp only [ne_eq]; omega) _).far (by simp only [ne_eq]; omega) _).far (by simp only [ne_eq]; omega) _).far (by simp only [ne_eq]; omega) _)
       | 5, _, hne, _ => exact absurd rfl hne
       | 6, _, _, hv => exact (((((hv : Holds _ _ _ _).far (by simp only [ne_eq]; omega) _).far (by simp only [ne_eq]; omega) _).far (by simp only [ne_eq]; omega) _).far (by simp only [ne_eq]; omega) _)
       | 7, _, _, hv => exact (((((hv : Holds _ _ _ _).far (by simp only [ne_eq]; omega) _).far (by simp only [ne_eq]; omega) _).far (by simp only [ne_eq]; omega) _).far (by simp only [ne_eq]; omega) _)
       | 8, _, _, hv => exact (((((hv : Holds _ _ _ _).far (by simp only [ne_eq]; omega) _).far (by simp only [ne_eq]; omega) _).far (by simp only [ne_eq]; omega) _).far (by simp only [ne_eq]; omega) _)
       | 9, _, _, hv => exact (((((hv : Holds _ _ _ _).far (by simp only [ne_eq]; omega) _).far (by simp only [ne_eq]; omega) _).far (by simp only [ne_eq]; omega) _).far (by simp only [ne_eq]; omega) _)
       | 10, _, _, hv => exact (((((hv : Holds _ _ _ _).far (by simp only [ne_eq]; omega) _).far (by simp only [ne_eq]; omega) _).far (by simp only [ne_eq]; omega) _).far (by simp only [ne_eq]; omega) _)
       | 11, hd, _, _ => exact absurd hd (by decide)
       | 12, _, _, hv => exact (((((hv : OwnGrades _ _ _ _).far (by first | exact Nat.lt_succ_self _ | (simp; done) | (simp; omega) | omega) _).far (by first | exact Nat.lt_succ_self _ | (simp; done) | (simp; omega) | omega) _).far (by first | exact Nat.lt_succ_self _ | (simp; done) | (simp; omega) | omega) _).far (by first | exact Nat.lt_succ_self _ | (simp; done) | (simp; omega) | omega) _)
       | 13, _, _, hv => exact (((((hv : OwnHands _ _ _ _).far (by first | exact Nat.lt_succ_self _ | (simp; done) | (simp; omega) | omega) _).far (by first | exact Nat.lt_succ_self _ | (simp; done) | (simp; omega) | omega) _).far (by first | exact Nat.lt_succ_self _ | (simp; done) | (simp; omega) | omega) _).far (by first | exact Nat.lt_succ_self _ | (simp; done) | (simp; omega) | omega) _)
       | _ + 14, _, _, _ => trivial
     ·intro xq w1 hb1 hx
      have e75 : xq 75 = .agg #[.int .i64 err, .int .i64 miss, .slice G gs.length d] := hx 0 (by decide)
      have e76 : xq 76 = .agg #[.int .i64 full, .int .i64 emp, .slice H hs.length q] := hx 1 (by decide)
      have e77 : xq 77 = .agg #[.int .i64 m0, .int .i64 m1, .int .i64 m2, .int .i64 m3] := hx 2 (by decide)
      have fn3_0 : Holds w1 w.heap.size 24 #[.int .i64 err, .int .i64 miss, .slice G gs.length d] := hx 3 (by decide)
      have fn4_0 : Holds w1 (w.heap.size + 1) 27 #[.int .i64 full, .int .i64 emp, .slice H hs.length q] := hx 4 (by decide)
      have fn5_0 : Holds w1 (w.heap.size + 1 + 1) 28 #[.int .i64 m0, .int .i64 m1, .int .i64 m2, .int .i64 m3] := hx 5 (by decide)
      have fiog_0 : OwnGrades w1 (w3.heap.size + 1) (.slice G gs.length d) gs := hx 12 (by decide)
      have fioh_0 : OwnHands w1 (w9.heap.size + 1) (.slice H hs.length q) hs := hx 13 (by decide)
      clear hx
      have hsz1 := hb1.size
      simp only [frameOf, fill, setSlot, sg, Nat.reduceBEq, if_true, if_false, Nat.reduceAdd, Nat.reduceEqDiff, HSL.out]
      simp only [e75, e76, e77]
      clear e75 e76 e77
      refine hKc _ _ ?_
      go_wp2_with fail
      exact ret_cells3 rfl rfl fn3_0 Try.underlying24 rfl (by kernel_rfl) rfl fn4_0 Try.underlying27 rfl (by kernel_rfl) rfl fn5_0 Try.underlying28 rfl (by kernel_rfl) rfl
       ⟨err, miss, full, emp, m0, m1, m2, m3, gs, hs, G, H, d, q, tk3, mm3, rfl, HMO.out, by omega, by omega, OwnGrades.base fiog_0 (by omega), OwnHands.base fioh_0 (by omega), by omega, HSr.out.low hb1 (by omega), grow_low (HG9.out.trans HGr.out) hb1 (Nat.le_refl _)⟩
end Go.Proofs.Ytdpgfaikmahmpaa
