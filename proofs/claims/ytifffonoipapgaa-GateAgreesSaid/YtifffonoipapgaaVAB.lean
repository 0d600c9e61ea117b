
import Derived.Test.YtifffonoipapgaaVAA
set_option linter.unusedSimpArgs false
set_option linter.unusedVariables false
namespace Go.Proofs.Ytifffonoipapgaa
open Go.RowKit
def mLo (a b c d : Int) : Int := if max a c > min b d then 1 else max a c
def mHi (a b c d : Int) : Int := if max a c > min b d then 0 else min b d
def letLo (miss n g : Int) : Int := mLo 0 40 ((max 0 (40 * (g - miss)) + n - 1) / n) (40 * (g + miss) / n)
def letHi (miss n g : Int) : Int := mHi 0 40 ((max 0 (40 * (g - miss)) + n - 1) / n) (40 * (g + miss) / n)
structure Bx where
 l0 : Int
 h0 : Int
 l1 : Int
 h1 : Int
 l2 : Int
 h2 : Int
 l3 : Int
 h3 : Int
def Bx.eqb (b c : Bx) : Bool := b.l0 == c.l0 && b.h0 == c.h0 && b.l1 == c.l1 && b.h1 == c.h1 && b.l2 == c.l2 && b.h2 == c.h2 && b.l3 == c.l3 && b.h3 == c.h3
theorem Bx.eq_of_eqb {b c : Bx} (h : b.eqb c = true) : b = c := by
 obtain ⟨_, _, _, _, _, _, _, _⟩ := b
 obtain ⟨_, _, _, _, _, _, _, _⟩ := c
 simp [Bx.eqb] at h
 simp [h]
def Bx.any : Bx := ⟨0, 40, 0, 40, 0, 40, 0, 40⟩
def Bx.meet (b c : Bx) : Bx :=
 ⟨mLo b.l0 b.h0 c.l0 c.h0, mHi b.l0 b.h0 c.l0 c.h0, mLo b.l1 b.h1 c.l1 c.h1, mHi b.l1 b.h1 c.l1 c.h1, mLo b.l2 b.h2 c.l2 c.h2, mHi b.l2 b.h2 c.l2 c.h2, mLo b.l3 b.h3 c.l3 c.h3, mHi b.l3 b.h3 c.l3 c.h3⟩
def Bx.least (b : Bx) : Int := b.l0 + b.l1 + b.l2 + b.l3
def Bx.most (b : Bx) : Int := b.h0 + b.h1 + b.h2 + b.h3
def Bx.room (b : Bx) : Bx :=
  ⟨mLo b.l0 b.h0 (40 - (b.most - b.h0)) (40 - (b.least - b.l0)), mHi b.l0 b.h0 (40 - (b.most - b.h0)) (40 - (b.least - b.l0)),
   mLo b.l1 b.h1 (40 - (b.most - b.h1)) (40 - (b.least - b.l1)), mHi b.l1 b.h1 (40 - (b.most - b.h1)) (40 - (b.least - b.l1)),
   mLo b.l2 b.h2 (40 - (b.most - b.h2)) (40 - (b.least - b.l2)), mHi b.l2 b.h2 (40 - (b.most - b.h2)) (40 - (b.least - b.l2)),
   mLo b.l3 b.h3 (40 - (b.most - b.h3)) (40 - (b.least - b.l3)), mHi b.l3 b.h3 (40 - (b.most - b.h3)) (40 - (b.least - b.l3))⟩
def okSpan (l h : Int) : Prop := (0 ≤ l ∧ l ≤ h ∧ h ≤ 40) ∨ (l = 1 ∧ h = 0)
structure Bx.ok (b : Bx) : Prop where
 s0 : okSpan b.l0 b.h0
 s1 : okSpan b.l1 b.h1
 s2 : okSpan b.l2 b.h2
 s3 : okSpan b.l3 b.h3
def Bx.wide (b : Bx) : Nat := ((b.h0 + 1 - b.l0) + (b.h1 + 1 - b.l1) + (b.h2 + 1 - b.l2) + (b.h3 + 1 - b.l3)).toNat
theorem okSpan.bd {l h : Int} (o : okSpan l h) : 0 ≤ l ∧ l ≤ 40 ∧ 0 ≤ h ∧ h ≤ 40 ∧ 0 ≤ h + 1 - l := by unfold okSpan at o; omega
theorem okSpan.meet {l h : Int} (o : okSpan l h) (c d : Int) : okSpan (mLo l h c d) (mHi l h c d) := by
 unfold okSpan mLo mHi at *; split <;> omega
theorem okSpan.shrink {l h : Int} (o : okSpan l h) (c d : Int) : (mLo l h c d = l ∧ mHi l h c d = h) ∨ mHi l h c d + 1 - mLo l h c d < h + 1 - l := by
 unfold okSpan mLo mHi at *; split <;> omega
theorem Bx.ok.meet {b : Bx} (o : b.ok) (c : Bx) : (b.meet c).ok := ⟨o.s0.meet _ _, o.s1.meet _ _, o.s2.meet _ _, o.s3.meet _ _⟩
theorem Bx.ok.room {b : Bx} (o : b.ok) : b.room.ok := ⟨o.s0.meet _ _, o.s1.meet _ _, o.s2.meet _ _, o.s3.meet _ _⟩
theorem Bx.ok_any : Bx.any.ok := by constructor <;> (unfold okSpan Bx.any; simp)
theorem Bx.ok.shrinks {b : Bx} (o : b.ok) (hne : b.room.eqb b = false) : b.room.wide < b.wide := by
 have t0 := o.s0.shrink (40 - (b.most - b.h0)) (40 - (b.least - b.l0))
 have t1 := o.s1.shrink (40 - (b.most - b.h1)) (40 - (b.least - b.l1))
 have t2 := o.s2.shrink (40 - (b.most - b.h2)) (40 - (b.least - b.l2))
 have t3 := o.s3.shrink (40 - (b.most - b.h3)) (40 - (b.least - b.l3))
 have u0 := o.room.s0.bd
 have u1 := o.room.s1.bd
 have u2 := o.room.s2.bd
 have u3 := o.room.s3.bd
 have v0 := o.s0.bd
 have v1 := o.s1.bd
 have v2 := o.s2.bd
 have v3 := o.s3.bd
 have hn : ¬ ((mLo b.l0 b.h0 (40 - (b.most - b.h0)) (40 - (b.least - b.l0)) = b.l0 ∧ mHi b.l0 b.h0 (40 - (b.most - b.h0)) (40 - (b.least - b.l0)) = b.h0) ∧
   (mLo b.l1 b.h1 (40 - (b.most - b.h1)) (40 - (b.least - b.l1)) = b.l1 ∧ mHi b.l1 b.h1 (40 - (b.most - b.h1)) (40 - (b.least - b.l1)) = b.h1) ∧
   (mLo b.l2 b.h2 (40 - (b.most - b.h2)) (40 - (b.least - b.l2)) = b.l2 ∧ mHi b.l2 b.h2 (40 - (b.most - b.h2)) (40 - (b.least - b.l2)) = b.h2) ∧
   (mLo b.l3 b.h3 (40 - (b.most - b.h3)) (40 - (b.least - b.l3)) = b.l3 ∧ mHi b.l3 b.h3 (40 - (b.most - b.h3)) (40 - (b.least - b.l3)) = b.h3)) := by
  intro h
  obtain ⟨⟨a0, a1⟩, ⟨a2, a3⟩, ⟨a4, a5⟩, ⟨a6, a7⟩⟩ := h
  simp [Bx.eqb, Bx.room, a0, a1, a2, a3, a4, a5, a6, a7] at hne
 unfold Bx.wide
 simp only [Bx.room] at u0 u1 u2 u3 ⊢
 generalize mLo b.l0 b.h0 (40 - (b.most - b.h0)) (40 - (b.least - b.l0)) = x0 at *
 generalize mHi b.l0 b.h0 (40 - (b.most - b.h0)) (40 - (b.least - b.l0)) = y0 at *
 generalize mLo b.l1 b.h1 (40 - (b.most - b.h1)) (40 - (b.least - b.l1)) = x1 at *
 generalize mHi b.l1 b.h1 (40 - (b.most - b.h1)) (40 - (b.least - b.l1)) = y1 at *
 generalize mLo b.l2 b.h2 (40 - (b.most - b.h2)) (40 - (b.least - b.l2)) = x2 at *
 generalize mHi b.l2 b.h2 (40 - (b.most - b.h2)) (40 - (b.least - b.l2)) = y2 at *
 generalize mLo b.l3 b.h3 (40 - (b.most - b.h3)) (40 - (b.least - b.l3)) = x3 at *
 generalize mHi b.l3 b.h3 (40 - (b.most - b.h3)) (40 - (b.least - b.l3)) = y3 at *
 omega
def narrowN : Nat → Bx → Bx
 | 0, b => b
 | n + 1, b => if b.room.eqb b then b else narrowN n b.room
def Bx.narrow (b : Bx) : Bx := narrowN 165 b
theorem Bx.ok.wide_le {b : Bx} (o : b.ok) : b.wide ≤ 164 := by
 have v0 := o.s0.bd
 have v1 := o.s1.bd
 have v2 := o.s2.bd
 have v3 := o.s3.bd
 unfold Bx.wide; omega
theorem narrowN_more : ∀ (n k : Nat) (b : Bx), b.ok → b.wide < n → narrowN (n + k) b = narrowN n b := by
 intro n
 induction n with
 | zero => intro k b _ h; omega
 | succ n ih =>
  intro k b o h
  rw [show n + 1 + k = (n + k) + 1 from by omega]
  unfold narrowN
  cases hq : b.room.eqb b with
  | true => simp
  | false =>
   simp only [Bool.false_eq_true, if_false]
   exact ih k _ o.room (by have := o.shrinks hq; omega)
theorem narrowN_eq {b : Bx} (o : b.ok) {n m : Nat} (hn : b.wide < n) (hm : b.wide < m) : narrowN n b = narrowN m b := by
 have h1 := narrowN_more n m b o hn
 have h2 := narrowN_more m n b o hm
 rw [Nat.add_comm] at h2
 exact h1.symm.trans h2
theorem Bx.ok.narrow_fix {b : Bx} (o : b.ok) (h : b.room.eqb b = true) : b.narrow = b := by
 unfold Bx.narrow narrowN; simp [h]
theorem Bx.ok.narrow_step {b : Bx} (o : b.ok) (h : b.room.eqb b = false) : b.narrow = b.room.narrow := by
 have hs := o.shrinks h
 have hw := o.wide_le
 have : b.narrow = narrowN 164 b.room := by
  unfold Bx.narrow
  rw [show (165 : Nat) = 164 + 1 from rfl, narrowN]
  simp [h]
 rw [this]
 exact narrowN_eq o.room (by omega) (by omega)
theorem narrowN_ok : ∀ (n : Nat) (b : Bx), b.ok → (narrowN n b).ok := by
 intro n
 induction n with
 | zero => intro b o; exact o
 | succ n ih =>
  intro b o
  unfold narrowN
  split
  ·exact o
  ·exact ih _ o.room
theorem Bx.ok.narrow {b : Bx} (o : b.ok) : b.narrow.ok := narrowN_ok _ _ o
structure Hf where
 spot : Int
 g0 : Int
 g1 : Int
 g2 : Int
 g3 : Int
structure Gr where
 corn : Int
 chaff : Int
 stones : Int
 damp : Int
 price : Int
def within (n lo hi : Int) : Bool := decide (lo ≤ n) && decide (n ≤ hi)
def Hf.sum (h : Hf) : Int := h.g0 + h.g1 + h.g2 + h.g3
def Hf.taken (h : Hf) : Bool := within h.spot 0 2 && (within h.g0 0 200 && within h.g1 0 200 && within h.g2 0 200 && within h.g3 0 200)
def Hf.enough (h : Hf) : Bool := within h.sum 10 200
def Gr.right (g : Gr) : Bool := (within g.corn 0 40 && within g.chaff 0 40 && within g.stones 0 40 && within g.damp 0 40) && within g.price 0 100
def falls : List Gr → Bool
 | a :: b :: l => decide (b.price ≤ a.price) && falls (b :: l)
 | _ => true
def gateErr (err miss : Int) (gs : List Gr) : Int :=
 if gs.length > 4 then 2 else if (within err 0 50 && within miss 0 20 && gs.all Gr.right) = false then 3 else if falls gs = false then 4 else 0
def cartErr (full empty : Int) (hs : List Hf) : Int :=
 if hs.length > 6 then 2 else if (within full 0 10000 && within empty 0 10000 && hs.all Hf.taken) = false then 3 else if hs.all Hf.enough = false then 8 else 0
def letBx (miss : Int) (h : Hf) : Bx :=
 ⟨letLo miss h.sum h.g0, letHi miss h.sum h.g0, letLo miss h.sum h.g1, letHi miss h.sum h.g1, letLo miss h.sum h.g2, letHi miss h.sum h.g2, letLo miss h.sum h.g3, letHi miss h.sum h.g3⟩
def meetAll (miss : Int) (p : Nat → Bool) : Nat → List Hf → Bx → Bx
 | _, [], b => b
 | i, h :: hs, b => meetAll miss p (i + 1) hs (if p i then b.meet (letBx miss h) else b)
def boundsOf (miss : Int) (p : Nat → Bool) (hs : List Hf) : Bx := (meetAll miss p 0 hs Bx.any).narrow
def none01 (l h : Int) : Bool := l == 1 && h == 0
def Bx.empty (b : Bx) : Bool := none01 b.l0 b.h0 || (none01 b.l1 b.h1 || (none01 b.l2 b.h2 || none01 b.l3 b.h3))
def Bx.holds (b : Bx) (m0 m1 m2 m3 : Int) : Bool := within m0 b.l0 b.h0 && (within m1 b.l1 b.h1 && (within m2 b.l2 b.h2 && within m3 b.l3 b.h3))
def bothErr (err miss : Int) (gs : List Gr) (full empty : Int) (hs : List Hf) : Int := if gateErr err miss gs ≠ 0 then gateErr err miss gs else cartErr full empty hs
end Go.Proofs.Ytifffonoipapgaa
