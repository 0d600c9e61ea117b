import Derived.RangeFuncNested
import Derived.RangeFuncBound
import Derived.RangeFuncCalls
import Derived.RangeFuncLeaves
import Derived.OwnWalkIn
import Derived.TacticsInMore
import Derived.Test.YtifffonoipapgaaVAA
import Derived.Test.YtifffonoipapgaaVAC
import Derived.Test.YtifffonoipapgaaVAE
import Derived.Test.YtifffonoipapgaaVAO
import Derived.Test.YtifffonoipapgaaVAT
set_option linter.unusedSimpArgs false
set_option linter.unusedVariables false
namespace Go.Proofs.Ytifffonoipapgaa
open Go.RowKit
def Bx.has (b : Bx) (m0 m1 m2 m3 : Int) : Prop := (b.l0 ≤ m0 ∧ m0 ≤ b.h0) ∧ (b.l1 ≤ m1 ∧ m1 ≤ b.h1) ∧ (b.l2 ≤ m2 ∧ m2 ≤ b.h2) ∧ (b.l3 ≤ m3 ∧ m3 ≤ b.h3)
theorem mLoHi {a b c d m : Int} : (mLo a b c d ≤ m ∧ m ≤ mHi a b c d) ↔ ((a ≤ m ∧ m ≤ b) ∧ (c ≤ m ∧ m ≤ d)) := by
 unfold mLo mHi; split <;> omega
theorem Bx.has_meet {b c : Bx} {m0 m1 m2 m3 : Int} : (b.meet c).has m0 m1 m2 m3 ↔ b.has m0 m1 m2 m3 ∧ c.has m0 m1 m2 m3 := by
 simp only [Bx.has, Bx.meet, mLoHi]
 constructor
 ·rintro ⟨⟨a, b⟩, ⟨c, d⟩, ⟨e, f⟩, g, h⟩; exact ⟨⟨a, c, e, g⟩, b, d, f, h⟩
 ·rintro ⟨⟨a, c, e, g⟩, b, d, f, h⟩; exact ⟨⟨a, b⟩, ⟨c, d⟩, ⟨e, f⟩, g, h⟩
theorem Bx.has_room {b : Bx} {m0 m1 m2 m3 : Int} (hs : m0 + m1 + m2 + m3 = 40) : b.room.has m0 m1 m2 m3 ↔ b.has m0 m1 m2 m3 := by
 simp only [Bx.has, Bx.room, mLoHi, Bx.most, Bx.least]
 constructor
 ·rintro ⟨⟨a, _⟩, ⟨c, _⟩, ⟨e, _⟩, g, _⟩; exact ⟨a, c, e, g⟩
 ·rintro ⟨⟨a, a'⟩, ⟨c, c'⟩, ⟨e, e'⟩, g, g'⟩
  refine ⟨⟨⟨a, a'⟩, ?_⟩, ⟨⟨c, c'⟩, ?_⟩, ⟨⟨e, e'⟩, ?_⟩, ⟨g, g'⟩, ?_⟩ <;> omega
theorem has_narrowN {m0 m1 m2 m3 : Int} (hs : m0 + m1 + m2 + m3 = 40) : ∀ (n : Nat) (b : Bx), (narrowN n b).has m0 m1 m2 m3 ↔ b.has m0 m1 m2 m3 := by
 intro n
 induction n with
 | zero => intro b; exact Iff.rfl
 | succ n ih =>
  intro b
  unfold narrowN
  split
  ·exact Iff.rfl
  ·rw [ih, Bx.has_room hs]
theorem Bx.has_narrow {b : Bx} {m0 m1 m2 m3 : Int} (hs : m0 + m1 + m2 + m3 = 40) : b.narrow.has m0 m1 m2 m3 ↔ b.has m0 m1 m2 m3 := has_narrowN hs _ _
theorem narrowN_room : ∀ (n : Nat) (b : Bx), b.ok → b.wide < n → (narrowN n b).room.eqb (narrowN n b) = true := by
 intro n
 induction n with
 | zero => intro b _ h; omega
 | succ n ih =>
  intro b o h
  unfold narrowN
  cases hq : b.room.eqb b with
  | true => simpa using hq
  | false =>
   simp only [Bool.false_eq_true, if_false]
   exact ih _ o.room (by have := o.shrinks hq; omega)
theorem Bx.ok.narrow_room {b : Bx} (o : b.ok) : b.narrow.room = b.narrow := Bx.eq_of_eqb (narrowN_room _ _ o (by have := o.wide_le; omega))
theorem Bx.nonempty_iff {b : Bx} (o : b.ok) : b.empty = false ↔ (b.l0 ≤ b.h0 ∧ b.l1 ≤ b.h1 ∧ b.l2 ≤ b.h2 ∧ b.l3 ≤ b.h3) := by
 have v0 := o.s0
 have v1 := o.s1
 have v2 := o.s2
 have v3 := o.s3
 unfold okSpan at v0 v1 v2 v3
 simp only [Bx.empty, none01, Bool.or_eq_false_iff, Bool.and_eq_false_iff, beq_eq_false_iff_ne, ne_eq]
 omega
structure Bx.Tight (b : Bx) : Prop where
 k0 : b.l0 ≤ b.h0
 k1 : b.l1 ≤ b.h1
 k2 : b.l2 ≤ b.h2
 k3 : b.l3 ≤ b.h3
 lo0 : 40 ≤ b.l0 + (b.h1 + b.h2 + b.h3)
 lo1 : 40 ≤ b.l1 + (b.h0 + b.h2 + b.h3)
 lo2 : 40 ≤ b.l2 + (b.h0 + b.h1 + b.h3)
 lo3 : 40 ≤ b.l3 + (b.h0 + b.h1 + b.h2)
 hi0 : b.h0 + (b.l1 + b.l2 + b.l3) ≤ 40
 hi1 : b.h1 + (b.l0 + b.l2 + b.l3) ≤ 40
 hi2 : b.h2 + (b.l0 + b.l1 + b.l3) ≤ 40
 hi3 : b.h3 + (b.l0 + b.l1 + b.l2) ≤ 40
theorem mLoHi_eq {a b c d : Int} (h : a ≤ b) (e1 : mLo a b c d = a) (e2 : mHi a b c d = b) : c ≤ a ∧ b ≤ d := by
 unfold mLo mHi at *; split at e1 <;> simp_all <;> omega
theorem Bx.ok.tight {b : Bx} (o : b.ok) (he : b.narrow.empty = false) : b.narrow.Tight := by
 have hr := o.narrow_room
 have hn := (Bx.nonempty_iff o.narrow).1 he
 generalize b.narrow = c at *
 obtain ⟨a0, a1, a2, a3⟩ := hn
 have e := hr
 have e0 := congrArg Bx.l0 e
 have f0 := congrArg Bx.h0 e
 have e1 := congrArg Bx.l1 e
 have f1 := congrArg Bx.h1 e
 have e2 := congrArg Bx.l2 e
 have f2 := congrArg Bx.h2 e
 have e3 := congrArg Bx.l3 e
 have f3 := congrArg Bx.h3 e
 simp only [Bx.room, Bx.most, Bx.least] at e0 f0 e1 f1 e2 f2 e3 f3
 have g0 := mLoHi_eq a0 e0 f0
 have g1 := mLoHi_eq a1 e1 f1
 have g2 := mLoHi_eq a2 e2 f2
 have g3 := mLoHi_eq a3 e3 f3
 constructor <;> omega
theorem Bx.ok.nonempty {b : Bx} (o : b.ok) {m0 m1 m2 m3 : Int} (hs : m0 + m1 + m2 + m3 = 40) (h : b.has m0 m1 m2 m3) : b.narrow.empty = false := by
 rw [Bx.nonempty_iff o.narrow]
 have := (Bx.has_narrow (b := b) hs).2 h
 unfold Bx.has at this
 omega
theorem three_of {a b c d e f T : Int} (h0 : a ≤ b) (h1 : c ≤ d) (h2 : e ≤ f) (h3 : a + c + e ≤ T) (h4 : T ≤ b + d + f) : ∃ x y z, x + y + z = T ∧ (a ≤ x ∧ x ≤ b) ∧ (c ≤ y ∧ y ≤ d) ∧ (e ≤ z ∧ z ≤ f) := by
 by_cases g : T - (a + c + e) ≤ b - a
 ·exact ⟨T - c - e, c, e, by omega, by omega, by omega, by omega⟩
 ·by_cases g2 : T - (b + c + e) ≤ d - c
  ·exact ⟨b, T - b - e, e, by omega, by omega, by omega, by omega⟩
  ·exact ⟨b, d, T - b - d, by omega, by omega, by omega, by omega⟩
theorem Bx.Tight.at0 {b : Bx} (t : b.Tight) {v : Int} (h0 : b.l0 ≤ v) (h1 : v ≤ b.h0) : ∃ x y z, v + x + y + z = 40 ∧ b.has v x y z := by
 obtain ⟨⟩ := t
 obtain ⟨x, y, z, e, p, q, r⟩ := three_of (a := b.l1) (b := b.h1) (c := b.l2) (d := b.h2) (e := b.l3) (f := b.h3) (T := 40 - v) (by omega) (by omega) (by omega) (by omega) (by omega)
 exact ⟨x, y, z, by omega, ⟨h0, h1⟩, p, q, r⟩
theorem Bx.Tight.mix {b : Bx} (t : b.Tight) : (b.l0 + b.t0) + (b.l1 + b.t1) + (b.l2 + b.t2) + (b.l3 + b.t3) = 40 ∧ b.has (b.l0 + b.t0) (b.l1 + b.t1) (b.l2 + b.t2) (b.l3 + b.t3) := by
 obtain ⟨⟩ := t
 have e0 : b.t0 = mn b.r0 (b.h0 - b.l0) := rfl
 have e1 : b.t1 = mn b.r1 (b.h1 - b.l1) := rfl
 have e2 : b.t2 = mn b.r2 (b.h2 - b.l2) := rfl
 have e3 : b.t3 = mn b.r3 (b.h3 - b.l3) := rfl
 have g0 : b.r0 = 40 - (b.l0 + b.l1 + b.l2 + b.l3) := rfl
 have g1 : b.r1 = b.r0 - b.t0 := rfl
 have g2 : b.r2 = b.r1 - b.t1 := rfl
 have g3 : b.r3 = b.r2 - b.t2 := rfl
 unfold mn at e0 e1 e2 e3
 unfold Bx.has
 generalize b.t0 = t0 at *
 generalize b.t1 = t1 at *
 generalize b.t2 = t2 at *
 generalize b.t3 = t3 at *
 generalize b.r0 = r0 at *
 generalize b.r1 = r1 at *
 generalize b.r2 = r2 at *
 generalize b.r3 = r3 at *
 split at e0 <;> split at e1 <;> split at e2 <;> split at e3 <;> omega
def fitsK (miss n g m : Int) : Prop := m * n - 40 * g ≤ 40 * miss ∧ 40 * g - m * n ≤ 40 * miss
theorem let_iff {miss n g m : Int} (hn : 0 < n) (h0 : 0 ≤ m) (h1 : m ≤ 40) : (letLo miss n g ≤ m ∧ m ≤ letHi miss n g) ↔ fitsK miss n g m := by
 unfold letLo letHi
 rw [mLoHi]
 have a1 : (max 0 (40 * (g - miss)) + n - 1) / n ≤ m ↔ max 0 (40 * (g - miss)) + n - 1 < (m + 1) * n := by rw [← Int.lt_add_one_iff, Int.ediv_lt_iff_lt_mul hn]
 have a2 : m ≤ 40 * (g + miss) / n ↔ m * n ≤ 40 * (g + miss) := Int.le_ediv_iff_mul_le hn
 have e : (m + 1) * n = m * n + n := by rw [Int.add_mul, Int.one_mul]
 have p : 0 ≤ m * n := Int.mul_nonneg h0 (by omega)
 rw [a1, a2, e]
 unfold fitsK
 omega
def Hf.fitsM (miss : Int) (h : Hf) (m0 m1 m2 m3 : Int) : Prop := fitsK miss h.sum h.g0 m0 ∧ fitsK miss h.sum h.g1 m1 ∧ fitsK miss h.sum h.g2 m2 ∧ fitsK miss h.sum h.g3 m3
theorem letBx_has {miss : Int} {h : Hf} {m0 m1 m2 m3 : Int} (hn : 0 < h.sum) (ha : Bx.any.has m0 m1 m2 m3) : (letBx miss h).has m0 m1 m2 m3 ↔ h.fitsM miss m0 m1 m2 m3 := by
 obtain ⟨⟨a0, a1⟩, ⟨b0, b1⟩, ⟨c0, c1⟩, d0, d1⟩ := ha
 simp only [Bx.any] at a0 a1 b0 b1 c0 c1 d0 d1
 unfold Bx.has letBx Hf.fitsM
 simp only
 rw [let_iff hn a0 a1, let_iff hn b0 b1, let_iff hn c0 c1, let_iff hn d0 d1]
theorem meetAll_has {miss : Int} {p : Nat → Bool} {m0 m1 m2 m3 : Int} (ha : Bx.any.has m0 m1 m2 m3) : ∀ (hs : List Hf) (i : Nat) (b : Bx), (∀ h ∈ hs, 0 < h.sum) →
  ((meetAll miss p i hs b).has m0 m1 m2 m3 ↔ b.has m0 m1 m2 m3 ∧ ∀ k h, hs[k]? = some h → p (i + k) = true → h.fitsM miss m0 m1 m2 m3) := by
 intro hs
 induction hs with
 | nil => intro i b _; simp [meetAll]
 | cons h hs ih =>
  intro i b hn
  rw [meetAll, ih (i + 1) _ (fun x hx => hn x (by simp [hx]))]
  have hh := letBx_has (miss := miss) (hn h (by simp)) ha
  constructor
  ·rintro ⟨h1, h2⟩
   have hb : b.has m0 m1 m2 m3 ∧ (p i = true → h.fitsM miss m0 m1 m2 m3) := by
    cases hp : p i with
    | true => rw [hp] at h1; simp only [if_true] at h1; rw [Bx.has_meet, hh] at h1; exact ⟨h1.1, fun _ => h1.2⟩
    | false => rw [hp] at h1; simp at h1; exact ⟨h1, fun h => by cases h⟩
   refine ⟨hb.1, fun k x hx hp => ?_⟩
   cases k with
   | zero => simp at hx; subst hx; exact hb.2 (by simpa using hp)
   | succ k => exact h2 k x (by simpa using hx) (by rw [show i + 1 + k = i + (k + 1) from by omega]; exact hp)
  ·rintro ⟨h1, h2⟩
   refine ⟨?_, fun k x hx hp => h2 (k + 1) x (by simpa using hx) (by rw [show i + (k + 1) = i + 1 + k from by omega]; exact hp)⟩
   cases hp : p i with
   | true => simp only [if_true]; rw [Bx.has_meet, hh]; exact ⟨h1, h2 0 h (by simp) (by simpa using hp)⟩
   | false => simpa using h1
theorem meetAll_ok {miss : Int} {p : Nat → Bool} : ∀ (hs : List Hf) (i : Nat) (b : Bx), b.ok → (meetAll miss p i hs b).ok := by
 intro hs
 induction hs with
 | nil => intro i b o; exact o
 | cons h hs ih => intro i b o; rw [meetAll]; apply ih; split; exact o.meet _; exact o
theorem bounds_has {miss : Int} {p : Nat → Bool} {hs : List Hf} {m0 m1 m2 m3 : Int} (hn : ∀ h ∈ hs, 0 < h.sum) (hm : m0 + m1 + m2 + m3 = 40) :
  (boundsOf miss p hs).has m0 m1 m2 m3 ↔ Bx.any.has m0 m1 m2 m3 ∧ ∀ k h, hs[k]? = some h → p k = true → h.fitsM miss m0 m1 m2 m3 := by
 unfold boundsOf
 rw [Bx.has_narrow hm]
 have hmono : (meetAll miss p 0 hs Bx.any).has m0 m1 m2 m3 → Bx.any.has m0 m1 m2 m3 := by
  have : ∀ (hs : List Hf) (i : Nat) (b : Bx), (meetAll miss p i hs b).has m0 m1 m2 m3 → b.has m0 m1 m2 m3 := by
   intro hs
   induction hs with
   | nil => intro i b h; exact h
   | cons h hs ih =>
    intro i b h1
    rw [meetAll] at h1
    have := ih _ _ h1
    split at this
    ·exact (Bx.has_meet.1 this).1
    ·exact this
  exact this hs 0 _
 constructor
 ·intro h
  have ha := hmono h
  have := (meetAll_has ha hs 0 Bx.any hn).1 h
  exact ⟨ha, fun k x hx hp => this.2 k x hx (by simpa using hp)⟩
 ·rintro ⟨ha, h⟩
  exact (meetAll_has ha hs 0 Bx.any hn).2 ⟨ha, fun k x hx hp => h k x hx (by simpa using hp)⟩
theorem meetAny_ok (miss : Int) (p : Nat → Bool) (hs : List Hf) : (meetAll miss p 0 hs Bx.any).ok := meetAll_ok hs 0 _ Bx.ok_any
theorem bounds_ok (miss : Int) (p : Nat → Bool) (hs : List Hf) : (boundsOf miss p hs).ok := (meetAny_ok miss p hs).narrow
theorem bounds_tight {miss : Int} {p : Nat → Bool} {hs : List Hf} (he : (boundsOf miss p hs).empty = false) : (boundsOf miss p hs).Tight := (meetAny_ok miss p hs).tight he
theorem bounds_nonempty {miss : Int} {p : Nat → Bool} {hs : List Hf} {m0 m1 m2 m3 : Int} (hm : m0 + m1 + m2 + m3 = 40) (h : (boundsOf miss p hs).has m0 m1 m2 m3) : (boundsOf miss p hs).empty = false :=
 (meetAny_ok miss p hs).nonempty hm ((Bx.has_narrow hm).1 h)
structure Mix4 (m0 m1 m2 m3 : Int) : Prop where
 p0 : 0 ≤ m0
 p1 : 0 ≤ m1
 p2 : 0 ≤ m2
 p3 : 0 ≤ m3
 sum : m0 + m1 + m2 + m3 = 40
theorem Mix4.any {m0 m1 m2 m3 : Int} (h : Mix4 m0 m1 m2 m3) : Bx.any.has m0 m1 m2 m3 := by
 obtain ⟨⟩ := h
 unfold Bx.has Bx.any
 simp only
 omega
structure TakenOk (miss m0 m1 m2 m3 : Int) (h : Hf) : Prop where
 s0 : 0 ≤ h.spot
 s1 : h.spot ≤ 2
 a0 : 0 ≤ h.g0
 a1 : 0 ≤ h.g1
 a2 : 0 ≤ h.g2
 a3 : 0 ≤ h.g3
 n0 : 10 ≤ h.sum
 n1 : h.sum ≤ 200
 fits : h.fitsM miss m0 m1 m2 m3
theorem TakenOk.taken {miss m0 m1 m2 m3 : Int} {h : Hf} (o : TakenOk miss m0 m1 m2 m3 h) : h.taken = true := by
 obtain ⟨s0, s1, a0, a1, a2, a3, n0, n1, _⟩ := o
 unfold Hf.sum at n1
 simp only [Hf.taken, within, Bool.and_eq_true, decide_eq_true_eq]
 omega
theorem TakenOk.enough {miss m0 m1 m2 m3 : Int} {h : Hf} (o : TakenOk miss m0 m1 m2 m3 h) : h.enough = true := by
 obtain ⟨s0, s1, a0, a1, a2, a3, n0, n1, _⟩ := o
 simp only [Hf.enough, within, Bool.and_eq_true, decide_eq_true_eq]
 omega
def Gr.limits (g : Gr) : Bx := ⟨g.corn, 40, 0, g.chaff, 0, g.stones, 0, g.damp⟩
def Bx.less0 (b : Bx) (g : Gr) : Bx := { b with l0 := mLo b.l0 b.h0 0 (g.corn - 1), h0 := mHi b.l0 b.h0 0 (g.corn - 1) }
def Bx.less1 (b : Bx) (g : Gr) : Bx := { b with l1 := mLo b.l1 b.h1 (g.chaff + 1) 40, h1 := mHi b.l1 b.h1 (g.chaff + 1) 40 }
def Bx.less2 (b : Bx) (g : Gr) : Bx := { b with l2 := mLo b.l2 b.h2 (g.stones + 1) 40, h2 := mHi b.l2 b.h2 (g.stones + 1) 40 }
def Bx.less3 (b : Bx) (g : Gr) : Bx := { b with l3 := mLo b.l3 b.h3 (g.damp + 1) 40, h3 := mHi b.l3 b.h3 (g.damp + 1) 40 }
def missBoxes : Bx → List Gr → List Bx
 | b, [] => [b.narrow]
 | b, g :: gs => missBoxes (b.less0 g) gs ++ (missBoxes (b.less1 g) gs ++ (missBoxes (b.less2 g) gs ++ missBoxes (b.less3 g) gs))
theorem Bx.ok.less0 {b : Bx} (o : b.ok) (g : Gr) : (b.less0 g).ok := ⟨o.s0.meet _ _, o.s1, o.s2, o.s3⟩
theorem Bx.ok.less1 {b : Bx} (o : b.ok) (g : Gr) : (b.less1 g).ok := ⟨o.s0, o.s1.meet _ _, o.s2, o.s3⟩
theorem Bx.ok.less2 {b : Bx} (o : b.ok) (g : Gr) : (b.less2 g).ok := ⟨o.s0, o.s1, o.s2.meet _ _, o.s3⟩
theorem Bx.ok.less3 {b : Bx} (o : b.ok) (g : Gr) : (b.less3 g).ok := ⟨o.s0, o.s1, o.s2, o.s3.meet _ _⟩
def boxesOf (b : Bx) (gs : List Gr) : Option Nat → List Bx
 | none => missBoxes b gs
 | some i => missBoxes (b.meet ((gs[i]?).getD ⟨0, 0, 0, 0, 0⟩).limits) (gs.take i)
def shownBx (b : Bx) (gs : List Gr) (i : Option Nat) : Option Bx := (boxesOf b gs i).find? (fun c => !c.empty)
def canOf (b : Bx) (gs : List Gr) : List Int :=
 ((List.range gs.length).filter (fun i => (shownBx b gs (some i)).isSome)).map Int.ofNat ++ (if (shownBx b gs none).isSome then [-1] else [])
structure CKept (w w' : World) : Prop where
 size : w.heap.size ≤ w'.heap.size
 same : ∀ (k : Nat) (cs : Array Value) (t : TypeId) (fr : Nat × Nat), w.heap[k]? = some (Obj.cells cs t fr) → w'.heap[k]? = some (Obj.cells cs t fr)
theorem CKept.refl (w : World) : CKept w w := ⟨Nat.le_refl _, fun _ _ _ _ h => h⟩
theorem CKept.trans {a b c : World} (h : CKept a b) (k : CKept b c) : CKept a c := ⟨Nat.le_trans h.size k.size, fun i cs t fr hi => k.same i cs t fr (h.same i cs t fr hi)⟩
theorem CKept.of {w w' : World} (h : Below w.heap.size w w') : CKept w w' := ⟨h.size, fun b _ _ _ hb => (h.block b (Array.getElem?_eq_some_iff.1 hb).1).trans hb⟩
theorem CKept.cell {w w' : World} (h : CKept w w') {p : Addr} {v : Value} (hc : w.cell? p = some v) : w'.cell? p = some v := by
 cases hb : w.heap[p.block]? with
 | none => simp [World.cell?, hb] at hc
 | some o =>
  cases o with
  | cells cs t fr =>
   have h2 := h.same _ _ _ _ hb
   simp only [World.cell?, hb] at hc
   simp only [World.cell?, h2]
   exact hc
  | _ => simp [World.cell?, hb] at hc
theorem Holds.ckept {w w' : World} {B : Nat} {t : TypeId} {cs : Array Value} (h : Holds w B t cs) (k : CKept w w') : Holds w' B t cs := k.same _ _ _ _ h
theorem GradesAt.ckept {w w' : World} {A : Option Addr} {gs : List Gr} (h : GradesAt w A gs) (hb : CKept w w') : GradesAt w' A gs := fun hn => by
 obtain ⟨B, o, e, hc⟩ := h hn
 refine ⟨B, o, e, fun k g hg => ?_⟩
 obtain ⟨h0, h1, h2, h3, h4⟩ := hc k g hg
 exact ⟨hb.cell h0, hb.cell h1, hb.cell h2, hb.cell h3, hb.cell h4⟩
theorem HandsAt.ckept {w w' : World} {A : Option Addr} {hs : List Hf} (h : HandsAt w A hs) (hb : CKept w w') : HandsAt w' A hs := fun hn => by
 obtain ⟨B, o, e, hc⟩ := h hn
 refine ⟨B, o, e, fun k g hg => ?_⟩
 obtain ⟨h0, h1, h2, h3, h4⟩ := hc k g hg
 exact ⟨hb.cell h0, hb.cell h1, hb.cell h2, hb.cell h3, hb.cell h4⟩
theorem GradesAt.tail {w : World} {B o : Nat} {g : Gr} {gs : List Gr} (h : GradesAt w (some ⟨B, o, none⟩) (g :: gs)) : GradesAt w (some ⟨B, o + 5, none⟩) gs := fun _ => by
 obtain ⟨B', o', e, hc⟩ := h (by simp)
 cases e
 refine ⟨B, o + 5, rfl, fun k x hx => ?_⟩
 obtain ⟨h0, h1, h2, h3, h4⟩ := hc (k + 1) x (by simpa using hx)
 have e0 : o + (k + 1) * 5 = o + 5 + k * 5 := by omega
 rw [e0] at h0 h1 h2 h3 h4
 exact ⟨h0, h1, h2, h3, h4⟩
abbrev OBx := { b : Bx // b.ok }
def missO : OBx → List Gr → List OBx
 | b, [] => [⟨b.1.narrow, b.2.narrow⟩]
 | b, g :: gs => missO ⟨b.1.less0 g, b.2.less0 g⟩ gs ++ (missO ⟨b.1.less1 g, b.2.less1 g⟩ gs ++ (missO ⟨b.1.less2 g, b.2.less2 g⟩ gs ++ missO ⟨b.1.less3 g, b.2.less3 g⟩ gs))
theorem missO_map : ∀ (gs : List Gr) (b : OBx), (missO b gs).map (·.1) = missBoxes b.1 gs := by
 intro gs
 induction gs with
 | nil => intro b; rfl
 | cons g gs ih => intro b; simp [missO, missBoxes, ih]
def bxVal (b : Bx) : Value := .agg #[.int .i64 b.l0, .int .i64 b.h0, .int .i64 b.l1, .int .i64 b.h1, .int .i64 b.l2, .int .i64 b.h2, .int .i64 b.l3, .int .i64 b.h3]
def RoundPost (J Jx : List OBx → World → Prop) (pre : List OBx) (x : OBx) (W1 : World) (e : Ending) (W' : World) : Prop :=
 (e = .returned (.bool true) ∧ J (pre ++ [x]) W' ∧ CKept W1 W') ∨ (e = .returned (.bool false) ∧ Jx (pre ++ [x]) W')
def YPost (J Jx : List OBx → World → Prop) (pre xs : List OBx) (W : World) (e : Ending) (W' : World) : Prop :=
 (e = .returned (.bool true) ∧ J (pre ++ xs) W' ∧ CKept W W') ∨ (e = .returned (.bool false) ∧ ∃ q, q <+: xs ∧ Jx (pre ++ q) W')
def Rounds (l N : Nat) (J Jx : List OBx → World → Prop) : Prop :=
 ∀ (m : Nat) (pre : List OBx) (x : OBx) (W : World), J pre W → pre.length < N → YieldAt Fence.wide m Try.prog l #[bxVal x.1] W (RoundPost J Jx pre x W)
def AbidesNew (J : List OBx → World → Prop) : Prop := ∀ s A A', J s A → Below A.heap.size A A' → J s A'
attribute [local go_sem] Oper.semAt_some
set_option maxRecDepth 100000 in
set_option maxHeartbeats 2000000 in
theorem ym_nil (l N : Nat) (J Jx : List OBx → World → Prop) (hJ : AbidesNew J) (hY : Rounds l N J Jx) (G : Option Addr) (d : Nat) (b : OBx) (pre : List OBx) (W : World) (h0 : J pre W) (hN : pre.length < N) :
  Calls Try.prog 148 #[bxVal b.1, .slice G 0 d, .func (.yield l) #[] #[]] W (YPost J Jx pre (missO b []) W) := by
 refine (callsIn_wide (n := 3)).1 ?_
 obtain ⟨b, o⟩ := b
 unfold bxVal
 have HJ := Lib.hid hJ
 have HY := Lib.hid hY
 have H0 := Lib.hid h0
 clear hJ hY h0
 refine callsIn_of_wp Try.func148 rfl trivial ?_ rfl
 simp only [Try.ntmps148, List.size_toArray, List.length_cons, List.length_nil, Nat.reduceAdd, Nat.reduceSub, Array.replicate_succ, Array.replicate_zero, List.push_toArray, List.append_toArray, List.nil_append, List.cons_append]
 gi_wp2_with (first
  | (refine ⟨trivial, ?_⟩; gi_at_call 139; refine (callsIn_wide.2 (narrow_any b o _)).mono ?_; rintro e w2 ⟨rfl, hb2⟩; have hB2 : Below W.heap.size W w2 := Below.trans zg (hb2.mono (by first | omega | (simp; done) | (simp; omega))); have hy0 := HY.out 2 pre ⟨b.narrow, o.narrow⟩ w2 (HJ.out _ _ _ H0.out hB2) hN; obtain ⟨fn, tmps, assign, body, hy, hR⟩ := hy0; dsimp only [bxVal] at hy)
  | ((refine hR.mono ?_); clear hR; rintro e w3 (⟨rfl, hj3, hk3⟩ | ⟨rfl, hx3⟩)))
 ·go_ret
  exact .inl ⟨rfl, hj3, (CKept.of hB2).trans hk3⟩
 ·go_ret
  exact .inr ⟨rfl, _, List.prefix_refl _, hx3⟩
attribute [local go_sem] ix4_0 ix4_1 ix4_2 ix4_3 ix8_0 ix8_1 ix8_2 ix8_3
set_option maxRecDepth 100000 in
set_option maxHeartbeats 1000000 in
theorem limits_any (g : Gr) (w : World) :
  Calls Try.prog 106 #[.agg #[.int .i64 g.corn, .int .i64 g.chaff, .int .i64 g.stones, .int .i64 g.damp, .int .i64 g.price]] w fun e w' => e = .returned (.agg #[.int .i64 g.corn, .int .i64 40, .int .i64 0, .int .i64 g.chaff, .int .i64 0, .int .i64 g.stones, .int .i64 0, .int .i64 g.damp]) ∧ Below w.heap.size w w' := by
 go_enter Try.func106, Try.ntmps106
 go_wp2_with fail
 refine ret_cell (t := 153) rfl rfl ?_ Try.underlying153 rfl (by kernel_rfl) rfl ⟨rfl, zg⟩
 exact zp0
theorem zp2 {p : Prop} (h : p := by (repeat first | (with_reducible first | assumption | apply Holds.set8 | apply Holds.set2 | apply Holds.set4 | apply Holds.putL | ((refine Holds.new' _ _ ?_); (simp; done)) | refine Holds.alloc ?_ _ | refine Holds.drew ?_ | refine Holds.far ?_ (by simp only [ne_eq]; omega) _) | rfl)) : p := h
set_option maxRecDepth 100000 in
set_option maxHeartbeats 1000000 in
theorem missing_0 (g : Gr) (w : World) (a0 : 0 ≤ g.corn) (a1 : g.corn ≤ 40) (b0 : 0 ≤ g.chaff) (b1 : g.chaff ≤ 40) (c0 : 0 ≤ g.stones) (c1 : g.stones ≤ 40) (d0 : 0 ≤ g.damp) (d1 : g.damp ≤ 40) :
  Calls Try.prog 150 #[.agg #[.int .i64 g.corn, .int .i64 g.chaff, .int .i64 g.stones, .int .i64 g.damp, .int .i64 g.price], .int .i64 0] w fun e w' => e = .returned (.agg #[.int .i64 ((0 : Int)), .int .i64 (g.corn - 1)]) ∧ Below w.heap.size w w' := by
 go_enter Try.func150, Try.ntmps150
 go_wp2_with (go_at_call 106; refine (limits_any g _).mono ?_; rintro e w2 ⟨rfl, hb2⟩; have Hr2 : Holds w2 (w.heap.size + 1) 60 #[.int .i64 0, .int .i64 0] := Holds.up zp0 hb2; have hB2 : Below w.heap.size w w2 := Below.trans zg (hb2.mono (by first | omega | (simp; done) | (simp; omega))); have hs2 := hb2.size; simp only [World.size_alloc] at hs2; have hl2 : w.heap.size + 1 < w2.heap.size := (by omega); have hl3 : w.heap.size < w2.heap.size := (by omega); clear hb2; have cr0 : w2.cell? ⟨w.heap.size + 1, 0, none⟩ = some (.int .i64 0) := Hr2.cell 0; have zr0 : w2.frozen? ⟨w.heap.size + 1, 0, none⟩ = false := Hr2.frozen 0; have cr1 : w2.cell? ⟨w.heap.size + 1, 1, none⟩ = some (.int .i64 0) := Hr2.cell 1; have zr1 : w2.frozen? ⟨w.heap.size + 1, 1, none⟩ = false := Hr2.frozen 1)
 refine ret_cell (t := 60) rfl rfl ?_ Try.underlying60 rfl (by kernel_rfl) rfl ⟨rfl, zg⟩
 exact zp2
set_option maxRecDepth 100000 in
set_option maxHeartbeats 1000000 in
theorem missing_1 (g : Gr) (w : World) (a0 : 0 ≤ g.corn) (a1 : g.corn ≤ 40) (b0 : 0 ≤ g.chaff) (b1 : g.chaff ≤ 40) (c0 : 0 ≤ g.stones) (c1 : g.stones ≤ 40) (d0 : 0 ≤ g.damp) (d1 : g.damp ≤ 40) :
  Calls Try.prog 150 #[.agg #[.int .i64 g.corn, .int .i64 g.chaff, .int .i64 g.stones, .int .i64 g.damp, .int .i64 g.price], .int .i64 1] w fun e w' => e = .returned (.agg #[.int .i64 (g.chaff + 1), .int .i64 ((40 : Int))]) ∧ Below w.heap.size w w' := by
 go_enter Try.func150, Try.ntmps150
 go_wp2_with (go_at_call 106; refine (limits_any g _).mono ?_; rintro e w2 ⟨rfl, hb2⟩; have Hr2 : Holds w2 (w.heap.size + 1) 60 #[.int .i64 0, .int .i64 0] := Holds.up zp0 hb2; have hB2 : Below w.heap.size w w2 := Below.trans zg (hb2.mono (by first | omega | (simp; done) | (simp; omega))); have hs2 := hb2.size; simp only [World.size_alloc] at hs2; have hl2 : w.heap.size + 1 < w2.heap.size := (by omega); have hl3 : w.heap.size < w2.heap.size := (by omega); clear hb2; have cr0 : w2.cell? ⟨w.heap.size + 1, 0, none⟩ = some (.int .i64 0) := Hr2.cell 0; have zr0 : w2.frozen? ⟨w.heap.size + 1, 0, none⟩ = false := Hr2.frozen 0; have cr1 : w2.cell? ⟨w.heap.size + 1, 1, none⟩ = some (.int .i64 0) := Hr2.cell 1; have zr1 : w2.frozen? ⟨w.heap.size + 1, 1, none⟩ = false := Hr2.frozen 1)
 refine ret_cell (t := 60) rfl rfl ?_ Try.underlying60 rfl (by kernel_rfl) rfl ⟨rfl, zg⟩
 exact zp2
set_option maxRecDepth 100000 in
set_option maxHeartbeats 1000000 in
theorem missing_2 (g : Gr) (w : World) (a0 : 0 ≤ g.corn) (a1 : g.corn ≤ 40) (b0 : 0 ≤ g.chaff) (b1 : g.chaff ≤ 40) (c0 : 0 ≤ g.stones) (c1 : g.stones ≤ 40) (d0 : 0 ≤ g.damp) (d1 : g.damp ≤ 40) :
  Calls Try.prog 150 #[.agg #[.int .i64 g.corn, .int .i64 g.chaff, .int .i64 g.stones, .int .i64 g.damp, .int .i64 g.price], .int .i64 2] w fun e w' => e = .returned (.agg #[.int .i64 (g.stones + 1), .int .i64 ((40 : Int))]) ∧ Below w.heap.size w w' := by
 go_enter Try.func150, Try.ntmps150
 go_wp2_with (go_at_call 106; refine (limits_any g _).mono ?_; rintro e w2 ⟨rfl, hb2⟩; have Hr2 : Holds w2 (w.heap.size + 1) 60 #[.int .i64 0, .int .i64 0] := Holds.up zp0 hb2; have hB2 : Below w.heap.size w w2 := Below.trans zg (hb2.mono (by first | omega | (simp; done) | (simp; omega))); have hs2 := hb2.size; simp only [World.size_alloc] at hs2; have hl2 : w.heap.size + 1 < w2.heap.size := (by omega); have hl3 : w.heap.size < w2.heap.size := (by omega); clear hb2; have cr0 : w2.cell? ⟨w.heap.size + 1, 0, none⟩ = some (.int .i64 0) := Hr2.cell 0; have zr0 : w2.frozen? ⟨w.heap.size + 1, 0, none⟩ = false := Hr2.frozen 0; have cr1 : w2.cell? ⟨w.heap.size + 1, 1, none⟩ = some (.int .i64 0) := Hr2.cell 1; have zr1 : w2.frozen? ⟨w.heap.size + 1, 1, none⟩ = false := Hr2.frozen 1)
 refine ret_cell (t := 60) rfl rfl ?_ Try.underlying60 rfl (by kernel_rfl) rfl ⟨rfl, zg⟩
 exact zp2
set_option maxRecDepth 100000 in
set_option maxHeartbeats 1000000 in
theorem missing_3 (g : Gr) (w : World) (a0 : 0 ≤ g.corn) (a1 : g.corn ≤ 40) (b0 : 0 ≤ g.chaff) (b1 : g.chaff ≤ 40) (c0 : 0 ≤ g.stones) (c1 : g.stones ≤ 40) (d0 : 0 ≤ g.damp) (d1 : g.damp ≤ 40) :
  Calls Try.prog 150 #[.agg #[.int .i64 g.corn, .int .i64 g.chaff, .int .i64 g.stones, .int .i64 g.damp, .int .i64 g.price], .int .i64 3] w fun e w' => e = .returned (.agg #[.int .i64 (g.damp + 1), .int .i64 ((40 : Int))]) ∧ Below w.heap.size w w' := by
 go_enter Try.func150, Try.ntmps150
 go_wp2_with (go_at_call 106; refine (limits_any g _).mono ?_; rintro e w2 ⟨rfl, hb2⟩; have Hr2 : Holds w2 (w.heap.size + 1) 60 #[.int .i64 0, .int .i64 0] := Holds.up zp0 hb2; have hB2 : Below w.heap.size w w2 := Below.trans zg (hb2.mono (by first | omega | (simp; done) | (simp; omega))); have hs2 := hb2.size; simp only [World.size_alloc] at hs2; have hl2 : w.heap.size + 1 < w2.heap.size := (by omega); have hl3 : w.heap.size < w2.heap.size := (by omega); clear hb2; have cr0 : w2.cell? ⟨w.heap.size + 1, 0, none⟩ = some (.int .i64 0) := Hr2.cell 0; have zr0 : w2.frozen? ⟨w.heap.size + 1, 0, none⟩ = false := Hr2.frozen 0; have cr1 : w2.cell? ⟨w.heap.size + 1, 1, none⟩ = some (.int .i64 0) := Hr2.cell 1; have zr1 : w2.frozen? ⟨w.heap.size + 1, 1, none⟩ = false := Hr2.frozen 1)
 refine ret_cell (t := 60) rfl rfl ?_ Try.underlying60 rfl (by kernel_rfl) rfl ⟨rfl, zg⟩
 exact zp2
end Go.Proofs.Ytifffonoipapgaa
