
import Derived.Test.YtdpgfaikmahmpaaGAA
import Derived.Test.YtdpgfaikmahmpaaGAC
import Derived.Test.YtdpgfaikmahmpaaGBL
set_option linter.unusedSimpArgs false
set_option linter.unusedVariables false
namespace Go.Proofs.Ytdpgfaikmahmpaa
open Go.RowKit
theorem Holds.set5 {w : World} {B : Nat} {t : TypeId} {a0 a1 a2 a3 a4 : Value} (u0 u1 u2 u3 u4 : Value) (h : Holds w B t #[a0, a1, a2, a3, a4]) :
  Holds (((((w.setCell ⟨B, 0, none⟩ u0).setCell ⟨B, 1, none⟩ u1).setCell ⟨B, 2, none⟩ u2).setCell ⟨B, 3, none⟩ u3).setCell ⟨B, 4, none⟩ u4) B t #[u0, u1, u2, u3, u4] := ((((h.setL 0 _).setL 1 _).setL 2 _).setL 3 _).setL 4 _
theorem set_again {w : World} {B i j : Nat} {t : TypeId} {l : List Value} {u v : Value} (h : Holds w B t ((l.set i v).set j u).toArray) (hne : i ≠ j) : Holds (w.setCell ⟨B, i, none⟩ v) B t ((l.set i v).set j u).toArray :=
 Holds.putL h (by rw [List.set_comm _ _ (Ne.symm hne), List.set_set])
def MixH (nn m0 m1 m2 m3 miss g0 g1 g2 g3 : Int) : Prop := Grains nn m0 m1 m2 m3 g0 g1 g2 g3 ∧ (miss = 0 → Exact4 nn m0 m1 m2 m3 g0 g1 g2 g3)
theorem grains_qd {n m0 m1 m2 m3 miss q0 q1 q2 q3 d0 d1 d2 d3 l0 l1 l2 l3 : Int} (hm : Mix4 m0 m1 m2 m3) (hn : 0 ≤ n) (h0 : q0 = n * m0 / 40) (h1 : q1 = n * m1 / 40) (h2 : q2 = n * m2 / 40) (h3 : q3 = n * m3 / 40)
  (hl0 : l0 = n - q0 - q1 - q2 - q3) (hd0 : d0 = giv l0 (n * m0)) (hl1 : l1 = l0 - d0) (hd1 : d1 = giv l1 (n * m1)) (hl2 : l2 = l1 - d1) (hd2 : d2 = giv l2 (n * m2)) (hl3 : l3 = l2 - d2) (hd3 : d3 = giv l3 (n * m3)) (hz : miss = 0 → n % 40 = 0) :
  MixH n m0 m1 m2 m3 miss (q0 + d0) (q1 + d1) (q2 + d2) (q3 + d3) := by
 subst hd0 hd1 hd2 hd3 hl1 hl2 hl3
 subst h0 h1 h2 h3
 have h := grains_of hm hn hl0 rfl rfl rfl
 exact ⟨h.1, fun z => h.2 (hz z)⟩
def gat (g0 g1 g2 g3 : Int) (k : Nat) : Int := match k with | 0 => g0 | 1 => g1 | 2 => g2 | _ => g3
theorem hand_at {w : World} {B : Nat} {T : TypeId} {s g0 g1 g2 g3 : Int} (h : Holds w B T #[.int .i64 s, .int .i64 g0, .int .i64 g1, .int .i64 g2, .int .i64 g3]) {k : Nat} (hk : k < 4) : w.cell? ⟨B, 1 + k, none⟩ = some (.int .i64 (gat g0 g1 g2 g3 k)) := by
 rw [h.cell]
 match k, hk with
 | 0, _ => rfl
 | 1, _ => rfl
 | 2, _ => rfl
 | 3, _ => rfl
theorem hand_set_at {w : World} {B : Nat} {T : TypeId} {s g0 g1 g2 g3 : Int} {v : Value} {j k : Nat} (h : Holds w B T (([.int .i64 s, .int .i64 g0, .int .i64 g1, .int .i64 g2, .int .i64 g3] : List Value).set (1 + j) v).toArray) (hk : k < 4) (hne : j ≠ k) : w.cell? ⟨B, 1 + k, none⟩ = some (.int .i64 (gat g0 g1 g2 g3 k)) := by
 rw [h.cell, List.getElem?_toArray, List.getElem?_set_ne (by omega)]
 match k, hk with
 | 0, _ => rfl
 | 1, _ => rfl
 | 2, _ => rfl
 | 3, _ => rfl
theorem gat_bd {nn m0 m1 m2 m3 miss g0 g1 g2 g3 : Int} (h : MixH nn m0 m1 m2 m3 miss g0 g1 g2 g3) (hn : nn ≤ 200) (k : Nat) : 0 ≤ gat g0 g1 g2 g3 k ∧ gat g0 g1 g2 g3 k ≤ 200 := by
 obtain ⟨⟨hs, a0, a1, a2, a3, _, _, _, _⟩, _⟩ := h
 unfold gat
 split <;> omega
theorem mixh_taken {nn m0 m1 m2 m3 miss g0 g1 g2 g3 s : Int} (h : MixH nn m0 m1 m2 m3 miss g0 g1 g2 g3) (n0 : 10 ≤ nn) (n1 : nn ≤ 200) (s0 : 0 ≤ s) (s1 : s ≤ 2) (i0 : 0 ≤ miss) : TakenOk miss m0 m1 m2 m3 ⟨s, g0, g1, g2, g3⟩ := by
 obtain ⟨⟨hs, a0, a1, a2, a3, f0, f1, f2, f3⟩, hz⟩ := h
 have key : ∀ m g : Int, (-40 < m * nn - 40 * g ∧ m * nn - 40 * g < 40) → (miss = 0 → m * nn = 40 * g) → fitsK miss nn g m := by
  intro m g f z
  unfold fitsK
  by_cases hm : miss = 0
  ·have := z hm; omega
  ·omega
 have hsum : (⟨s, g0, g1, g2, g3⟩ : Hf).sum = nn := hs
 refine ⟨s0, s1, a0, a1, a2, a3, by omega, by omega, ?_⟩
 unfold Hf.fitsM
 rw [hsum]
 exact ⟨key _ _ f0 fun z => (hz z).f0, key _ _ f1 fun z => (hz z).f1, key _ _ f2 fun z => (hz z).f2, key _ _ f3 fun z => (hz z).f3⟩
theorem mixh_moved {nn m0 m1 m2 m3 miss g0 g1 g2 g3 s t : Int} {j k : Nat} (h : MixH nn m0 m1 m2 m3 miss g0 g1 g2 g3) (n0 : 10 ≤ nn) (n1 : nn ≤ 200) (s0 : 0 ≤ s) (s1 : s ≤ 2) (i0 : 0 ≤ miss) (hj : j < 4) (hk : k < 4) (hne : j ≠ k) (t0 : 0 ≤ t) (t1 : t < max 1 miss) (t2 : t ≤ gat g0 g1 g2 g3 j) :
  ∃ x0 x1 x2 x3 : Int, (([.int .i64 s, .int .i64 g0, .int .i64 g1, .int .i64 g2, .int .i64 g3] : List Value).set (1 + j) (.int .i64 (gat g0 g1 g2 g3 j - t))).set (1 + k) (.int .i64 (gat g0 g1 g2 g3 k + t)) = [.int .i64 s, .int .i64 x0, .int .i64 x1, .int .i64 x2, .int .i64 x3] ∧ TakenOk miss m0 m1 m2 m3 ⟨s, x0, x1, x2, x3⟩ := by
 obtain ⟨⟨hs, a0, a1, a2, a3, f0, f1, f2, f3⟩, hz⟩ := h
 have key : ∀ m g : Int, (-40 < m * nn - 40 * g ∧ m * nn - 40 * g < 40) → (miss = 0 → m * nn = 40 * g) → fitsK miss nn g m ∧ fitsK miss nn (g - t) m ∧ fitsK miss nn (g + t) m := by
  intro m g f z
  refine fitsK_less ?_ t0
  by_cases hm : miss = 0
  ·exact .inr ⟨z hm, by omega⟩
  ·exact .inl ⟨f, by omega⟩
 have k0 := key _ _ f0 fun z => (hz z).f0
 have k1 := key _ _ f1 fun z => (hz z).f1
 have k2 := key _ _ f2 fun z => (hz z).f2
 have k3 := key _ _ f3 fun z => (hz z).f3
 have fin : ∀ x0 x1 x2 x3 : Int, x0 + x1 + x2 + x3 = nn → 0 ≤ x0 → 0 ≤ x1 → 0 ≤ x2 → 0 ≤ x3 → fitsK miss nn x0 m0 → fitsK miss nn x1 m1 → fitsK miss nn x2 m2 → fitsK miss nn x3 m3 → TakenOk miss m0 m1 m2 m3 ⟨s, x0, x1, x2, x3⟩ := by
  intro x0 x1 x2 x3 hx y0 y1 y2 y3 z0 z1 z2 z3
  have hsum : (⟨s, x0, x1, x2, x3⟩ : Hf).sum = nn := hx
  refine ⟨s0, s1, y0, y1, y2, y3, by omega, by omega, ?_⟩
  unfold Hf.fitsM
  rw [hsum]
  exact ⟨z0, z1, z2, z3⟩
 clear key
 match j, k, hj, hk, hne, t2 with
 | 0, 0, _, _, hne, _ => exact absurd rfl hne
 | 0, 1, _, _, _, t2 => have t2 : t ≤ g0 := t2; exact ⟨g0 - t, g1 + t, g2, g3, rfl, fin _ _ _ _ (by omega) (by omega) (by omega) (by omega) (by omega) k0.2.1 k1.2.2 k2.1 k3.1⟩
 | 0, 2, _, _, _, t2 => have t2 : t ≤ g0 := t2; exact ⟨g0 - t, g1, g2 + t, g3, rfl, fin _ _ _ _ (by omega) (by omega) (by omega) (by omega) (by omega) k0.2.1 k1.1 k2.2.2 k3.1⟩
 | 0, 3, _, _, _, t2 => have t2 : t ≤ g0 := t2; exact ⟨g0 - t, g1, g2, g3 + t, rfl, fin _ _ _ _ (by omega) (by omega) (by omega) (by omega) (by omega) k0.2.1 k1.1 k2.1 k3.2.2⟩
 | 1, 0, _, _, _, t2 => have t2 : t ≤ g1 := t2; exact ⟨g0 + t, g1 - t, g2, g3, rfl, fin _ _ _ _ (by omega) (by omega) (by omega) (by omega) (by omega) k0.2.2 k1.2.1 k2.1 k3.1⟩
 | 1, 1, _, _, hne, _ => exact absurd rfl hne
 | 1, 2, _, _, _, t2 => have t2 : t ≤ g1 := t2; exact ⟨g0, g1 - t, g2 + t, g3, rfl, fin _ _ _ _ (by omega) (by omega) (by omega) (by omega) (by omega) k0.1 k1.2.1 k2.2.2 k3.1⟩
 | 1, 3, _, _, _, t2 => have t2 : t ≤ g1 := t2; exact ⟨g0, g1 - t, g2, g3 + t, rfl, fin _ _ _ _ (by omega) (by omega) (by omega) (by omega) (by omega) k0.1 k1.2.1 k2.1 k3.2.2⟩
 | 2, 0, _, _, _, t2 => have t2 : t ≤ g2 := t2; exact ⟨g0 + t, g1, g2 - t, g3, rfl, fin _ _ _ _ (by omega) (by omega) (by omega) (by omega) (by omega) k0.2.2 k1.1 k2.2.1 k3.1⟩
 | 2, 1, _, _, _, t2 => have t2 : t ≤ g2 := t2; exact ⟨g0, g1 + t, g2 - t, g3, rfl, fin _ _ _ _ (by omega) (by omega) (by omega) (by omega) (by omega) k0.1 k1.2.2 k2.2.1 k3.1⟩
 | 2, 2, _, _, hne, _ => exact absurd rfl hne
 | 2, 3, _, _, _, t2 => have t2 : t ≤ g2 := t2; exact ⟨g0, g1, g2 - t, g3 + t, rfl, fin _ _ _ _ (by omega) (by omega) (by omega) (by omega) (by omega) k0.1 k1.1 k2.2.1 k3.2.2⟩
 | 3, 0, _, _, _, t2 => have t2 : t ≤ g3 := t2; exact ⟨g0 + t, g1, g2, g3 - t, rfl, fin _ _ _ _ (by omega) (by omega) (by omega) (by omega) (by omega) k0.2.2 k1.1 k2.1 k3.2.1⟩
 | 3, 1, _, _, _, t2 => have t2 : t ≤ g3 := t2; exact ⟨g0, g1 + t, g2, g3 - t, rfl, fin _ _ _ _ (by omega) (by omega) (by omega) (by omega) (by omega) k0.1 k1.2.2 k2.1 k3.2.1⟩
 | 3, 2, _, _, _, t2 => have t2 : t ≤ g3 := t2; exact ⟨g0, g1, g2 + t, g3 - t, rfl, fin _ _ _ _ (by omega) (by omega) (by omega) (by omega) (by omega) k0.1 k1.1 k2.2.2 k3.2.1⟩
 | 3, 3, _, _, hne, _ => exact absurd rfl hne
def TakenPost (w : World) (S : Nat) (A : Option Addr) (n c tk : Nat) (miss m0 m1 m2 m3 : Int) (e : Ending) (w' : World) : Prop :=
 ∃ (h : Hf) (tk1 : Nat) (m : Int), e = .returned (.agg #[.int .i64 h.spot, .int .i64 h.g0, .int .i64 h.g1, .int .i64 h.g2, .int .i64 h.g3]) ∧ TakenOk miss m0 m1 m2 m3 h ∧ tk1 ≤ tk + 8 ∧ Holds w' S 172 #[.slice A n c, .int .i64 ((tk1 : Nat) : Int), .int .u32 m] ∧ w.grownBy w' (some S)
def TkRel (w4 : World) (sp l0 l1 l2 l3 l4 q0 q1 q2 q3 d0 d1 d2 d3 : Int) (v9 v49 : Value) (wr : World) : Prop :=
 ∃ i l g0 g1 g2 g3 : Int, v9 = .int .i64 l ∧ v49 = .int .i64 i ∧ Hid ((i = 0 ∧ l = l0 ∧ g0 = q0 ∧ g1 = q1 ∧ g2 = q2 ∧ g3 = q3) ∨ (i = 1 ∧ l = l1 ∧ g0 = q0 + d0 ∧ g1 = q1 ∧ g2 = q2 ∧ g3 = q3) ∨ (i = 2 ∧ l = l2 ∧ g0 = q0 + d0 ∧ g1 = q1 + d1 ∧ g2 = q2 ∧ g3 = q3) ∨
  (i = 3 ∧ l = l3 ∧ g0 = q0 + d0 ∧ g1 = q1 + d1 ∧ g2 = q2 + d2 ∧ g3 = q3) ∨ (i = 4 ∧ l = l4 ∧ g0 = q0 + d0 ∧ g1 = q1 + d1 ∧ g2 = q2 + d2 ∧ g3 = q3 + d3)) ∧
  Holds wr w4.heap.size 30 #[.int .i64 sp, .int .i64 g0, .int .i64 g1, .int .i64 g2, .int .i64 g3] ∧ Below w4.heap.size w4 wr
theorem mix_mul {nn m0 m1 m2 m3 : Int} (hm : Mix4 m0 m1 m2 m3) (h0 : 10 ≤ nn) (h1 : nn ≤ 200) : (0 ≤ nn * m0 ∧ nn * m0 ≤ 8000) ∧ (0 ≤ nn * m1 ∧ nn * m1 ≤ 8000) ∧ (0 ≤ nn * m2 ∧ nn * m2 ≤ 8000) ∧ 0 ≤ nn * m3 ∧ nn * m3 ≤ 8000 := by
 obtain ⟨p0, p1, p2, p3, hs⟩ := hm
 have key : ∀ x : Int, 0 ≤ x → x ≤ 40 → 0 ≤ nn * x ∧ nn * x ≤ 8000 := fun x a b => ⟨Int.mul_nonneg (by omega) a, Int.le_trans (Int.mul_le_mul h1 b a (by decide)) (by decide)⟩
 exact ⟨key _ p0 (by omega), key _ p1 (by omega), key _ p2 (by omega), key _ p3 (by omega)⟩
end Go.Proofs.Ytdpgfaikmahmpaa
