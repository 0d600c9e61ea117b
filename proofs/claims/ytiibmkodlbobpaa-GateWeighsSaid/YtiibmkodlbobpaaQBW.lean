
import Derived.Test.YtiibmkodlbobpaaQAA
import Derived.Test.YtiibmkodlbobpaaQAC
import Derived.Test.YtiibmkodlbobpaaQBK
import Derived.Test.YtiibmkodlbobpaaQBU
import Derived.Test.YtiibmkodlbobpaaQBV
set_option linter.unusedSimpArgs false
set_option linter.unusedVariables false
namespace Go.Proofs.Ytiibmkodlbobpaa
open Go.RowKit
def wsum (x : Int) (f : Nat → Int) : Nat → Int
 | 0 => 0
 | k + 1 => wsum x f k + x * f k / 40
theorem wsum_most {x : Int} {B : Bx} (h0 : 0 ≤ x) (hs : B.l0 + B.l1 + B.l2 + B.l3 ≤ 40) : wsum x (bxl B) 4 ≤ x := by
 simp only [wsum, bxl]
 have e : x * B.l0 + x * B.l1 + x * B.l2 + x * B.l3 = x * (B.l0 + B.l1 + B.l2 + B.l3) := by simp only [Int.mul_add]
 have m := Int.mul_le_mul_of_nonneg_left hs h0
 generalize x * B.l0 = a at *
 generalize x * B.l1 = b at *
 generalize x * B.l2 = c at *
 generalize x * B.l3 = d at *
 omega
theorem wsum_least {x : Int} {B : Bx} (h0 : 0 ≤ x) (hs : 40 ≤ B.h0 + B.h1 + B.h2 + B.h3) : x ≤ wsum x (bxh B) 4 + 3 := by
 simp only [wsum, bxh]
 have e : x * B.h0 + x * B.h1 + x * B.h2 + x * B.h3 = x * (B.h0 + B.h1 + B.h2 + B.h3) := by simp only [Int.mul_add]
 have m := Int.mul_le_mul_of_nonneg_left hs h0
 generalize x * B.h0 = a at *
 generalize x * B.h1 = b at *
 generalize x * B.h2 = c at *
 generalize x * B.h3 = d at *
 omega
theorem part_mono {x y a b : Int} (h0 : 0 ≤ a) (hx : 0 ≤ x) (hxy : x ≤ y) (hab : a ≤ b) : x * a / 40 ≤ y * b / 40 :=
 Int.ediv_le_ediv (by decide) (Int.mul_le_mul hxy hab h0 (by omega))
theorem bhas_at {B : Bx} {m0 m1 m2 m3 : Int} (h : B.has m0 m1 m2 m3) (k : Nat) : bxl B k ≤ gat m0 m1 m2 m3 k ∧ gat m0 m1 m2 m3 k ≤ bxh B k := by
 unfold Bx.has at h
 match k with
 | 0 => show B.l0 ≤ m0 ∧ m0 ≤ B.h0; omega
 | 1 => show B.l1 ≤ m1 ∧ m1 ≤ B.h1; omega
 | 2 => show B.l2 ≤ m2 ∧ m2 ≤ B.h2; omega
 | _ + 3 => show B.l3 ≤ m3 ∧ m3 ≤ B.h3; omega
theorem mix_at {m0 m1 m2 m3 : Int} (h : Mix4 m0 m1 m2 m3) (k : Nat) : 0 ≤ gat m0 m1 m2 m3 k ∧ gat m0 m1 m2 m3 k ≤ 40 := by
 obtain ⟨p0, p1, p2, p3, hs⟩ := h
 unfold gat
 split <;> omega
theorem part_in {x a : Int} (h0 : 0 ≤ x) (h1 : x ≤ 20000) (a0 : 0 ≤ a) (a1 : a ≤ 41) : (0 ≤ x * a ∧ x * a ≤ 820000) ∧ 0 ≤ x * a / 40 ∧ x * a / 40 ≤ 20500 := by
 have p0 : 0 ≤ x * a := Int.mul_nonneg h0 a0
 have p1 : x * a ≤ 20000 * 41 := Int.mul_le_mul h1 a1 a0 (by decide)
 omega
theorem cell4_at {w : World} {B : Nat} {T : TypeId} {g0 g1 g2 g3 : Int} (h : Holds w B T #[.int .i64 g0, .int .i64 g1, .int .i64 g2, .int .i64 g3]) {k : Nat} (hk : k < 4) : w.cell? ⟨B, k, none⟩ = some (.int .i64 (gat g0 g1 g2 g3 k)) := by
 rw [h.cell]
 match k, hk with
 | 0, _ => rfl
 | 1, _ => rfl
 | 2, _ => rfl
 | 3, _ => rfl
theorem bytes_of {w : World} {a : Option Addr} {len cap : Nat} {zs : List Int}
  (h : (a = none ∧ len = 0 ∧ cap = 0 ∧ zs = []) ∨ ∃ x, a = some x ∧ len ≤ cap ∧ cap ≤ maxLen ∧ zs.length = cap ∧ (∀ i, i < zs.length → w.cell? (x.add i) = some (.int .u8 (zs.getD i 0))) ∧ ∀ n ∈ zs, (Lit.int .u8 n).wf = true) : BytesAt w a len ∧ len ≤ 9223372036854775807 := by
 rcases h with ⟨rfl, rfl, rfl, rfl⟩ | ⟨x, rfl, hl, hm, hz, hc, _⟩
 ·exact ⟨fun h => absurd h (Nat.lt_irrefl 0), by decide⟩
 ·refine ⟨fun hp => ?_, by unfold maxLen at hm; omega⟩
  have h0 := hc 0 (by omega)
  obtain ⟨B, o, s⟩ := x
  have hs : s = none := by
   cases s with
   | none => rfl
   | some s =>
    simp only [Addr.add, if_true, World.cell?] at h0
    split at h0 <;> simp at h0
  subst hs
  refine ⟨B, o, rfl, fun k hk => ⟨zs.getD k 0, ?_⟩⟩
  have hk' := hc k (by omega)
  rcases Nat.eq_zero_or_pos k with rfl | hkp
  ·simpa [Addr.add] using hk'
  ·simpa [Addr.add, Nat.ne_of_gt hkp] using hk'
theorem u8_in {a : Int} (h : (Lit.int .u8 a).wf = true) : 0 ≤ a ∧ a ≤ 255 := by
 have h1 : IntKind.u8.min = 0 := by decide
 have h2 : IntKind.u8.max = 255 := by decide
 simp only [Lit.wf, h1, h2, Bool.and_eq_true, decide_eq_true_eq] at h
 exact h
end Go.Proofs.Ytiibmkodlbobpaa
