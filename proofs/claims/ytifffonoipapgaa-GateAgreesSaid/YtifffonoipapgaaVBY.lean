
import Derived.Test.YtifffonoipapgaaVAA
import Derived.Test.YtifffonoipapgaaVAC
import Derived.Test.YtifffonoipapgaaVBC
import Derived.Test.YtifffonoipapgaaVBD
import Derived.Test.YtifffonoipapgaaVBI
import Derived.Test.YtifffonoipapgaaVBK
import Derived.Test.YtifffonoipapgaaVBN
import Derived.Test.YtifffonoipapgaaVBR
import Derived.Test.YtifffonoipapgaaVBW
import Derived.Test.YtifffonoipapgaaVBX
set_option linter.unusedSimpArgs false
set_option linter.unusedVariables false
namespace Go.Proofs.Ytifffonoipapgaa
open Go.RowKit
def Bx.zero : Bx := ⟨0, 0, 0, 0, 0, 0, 0, 0⟩



def RowN (w : World) (O n : Nat) (t : TypeId) (f : Nat → Value) : Prop := w.rowIs O t n f
theorem RowN.up {w w' : World} {O n : Nat} {t : TypeId} {f : Nat → Value} (h : RowN w O n t f) (hb : Below w.heap.size w w') : RowN w' O n t f := rowIs_up h hb
theorem RowN.lt {w : World} {O n : Nat} {t : TypeId} {f : Nat → Value} (h : RowN w O n t f) : O < w.heap.size := World.rowIs.lt h
theorem RowN.set {w : World} {O n : Nat} {t : TypeId} {f g : Nat → Value} (h : RowN w O n t f) (j : Nat) (v : Value) (e : ∀ i, i < n → g i = if i = j then v else f i) : RowN (w.setCell ⟨O, j, none⟩ v) O n t g := World.rowIs.congr (World.rowIs.set h j v) (fun i hi => (e i hi).symm)
theorem eqInt_same (A A' : Option Addr) (c c' : Nat) (xs : List Int) (w : World) (hA : IntsAt w A xs) (hA' : IntsAt w A' xs) (hl : xs.length ≤ 1000) :
  Calls Try.prog 54 #[.slice A xs.length c, .slice A' xs.length c'] w fun e w' => e = .returned (.bool true) ∧ Below w.heap.size w w' := by
 have HA := Lib.hid hA
 have HA' := Lib.hid hA'
 have hq : (xs == xs) = true := by simp
 have HQ := Lib.hid hq
 clear hA hA' hq
 go_enter Try.func54, Try.ntmps54
 go_wp2_with (go_at_call 78; refine (EqualInt_eq A A' c c' xs xs _ HA.out HA'.out rfl (by omega)).mono ?_; rw [HQ.out]; rintro e w2 ⟨rfl, hb2⟩)
 go_ret
 exact ⟨rfl, hb2⟩
def clashL (E miss : Int) (hs : List Hf) : List Int := if E = 0 then clashOf miss hs else []
def clashU (E miss : Int) (hs : List Hf) : Int := if E = 0 then foundErr (decide (0 < (clashOf miss hs).length)) else E
def toppedT (E miss : Int) (hs : List Hf) : Bool := if E = 0 then toppedOf miss hs else false
theorem Clash_tot {E U : Int} {KS : List Int} (err miss full emp : Int) (G A : Option Addr) (d c : Nat) (gs : List Gr) (hs : List Hf) (w : World) (hG : GradesAt w G gs) (hgl : gs.length ≤ 1000) (hA : HandsAt w A hs) (hl : hs.length ≤ 1000) (hE : E = bothErr err miss gs full emp hs) (hU : U = clashU E miss hs) (hK : KS = clashL E miss hs) :
  Calls Try.prog 52 #[.agg #[.int .i64 err, .int .i64 miss, .slice G gs.length d], .agg #[.int .i64 full, .int .i64 emp, .slice A hs.length c]] w fun e w' => ∃ (L : Option Addr) (q : Nat), e = .returned (.tuple #[.slice L KS.length q, .int .i64 U]) ∧ IntsAt w' L KS ∧ Below w.heap.size w w' := by
 by_cases h : E = 0
 ·rw [clashL, if_pos h] at hK
  rw [clashU, if_pos h] at hU
  subst hK
  refine (Clash_ok err miss full emp G A d c gs hs w hG hgl hA hl (hE.symm.trans h)).mono ?_
  rintro e w' ⟨v, rfl, hown, hb⟩
  obtain ⟨L, q, rfl, hL⟩ := ints_of_row hown
  refine ⟨L, q, ?_, hL, hb⟩
  rw [hU, foundErr]
  by_cases h0 : (clashOf miss hs).length = 0
  ·rw [if_pos h0, decide_eq_false (by omega)]; rfl
  ·rw [if_neg h0, decide_eq_true (by omega)]; rfl
 ·rw [clashL, if_neg h] at hK
  rw [clashU, if_neg h] at hU
  subst hK
  subst hU
  rw [hE] at h ⊢
  exact (Clash_err err miss full emp G A d c gs hs w hG hgl hA hl h).mono fun e w' h => ⟨none, 0, h.1, fun h => absurd h (Nat.lt_irrefl 0), h.2⟩
theorem Topped_tot {E : Int} {T : Bool} (err miss full emp : Int) (G A : Option Addr) (d c : Nat) (gs : List Gr) (hs : List Hf) (w : World) (hG : GradesAt w G gs) (hgl : gs.length ≤ 1000) (hA : HandsAt w A hs) (hl : hs.length ≤ 1000) (hE : E = bothErr err miss gs full emp hs) (hT : T = toppedT E miss hs) :
  Calls Try.prog 53 #[.agg #[.int .i64 err, .int .i64 miss, .slice G gs.length d], .agg #[.int .i64 full, .int .i64 emp, .slice A hs.length c]] w fun e w' => e = .returned (.tuple #[.bool T, .int .i64 E]) ∧ Below w.heap.size w w' := by
 by_cases h : E = 0
 ·rw [toppedT, if_pos h] at hT
  rw [hT, h]
  exact Topped_ok err miss full emp G A d c gs hs w hG hgl hA hl (hE.symm.trans h)
 ·rw [toppedT, if_neg h] at hT
  rw [hT, hE]
  exact Topped_err err miss full emp G A d c gs hs w hG hgl hA hl (fun e => h (hE.trans e))
theorem row1_set3 {w : World} {B b n : Nat} {e t : TypeId} {v : Value} {xs : List Value} {ds : Array Value} {u0 u1 u2 : Value} (h : w.ownsRow B e 1 v n xs) (h2 : Holds w b t ds) (ht : e ≠ t) : (((w.setCell ⟨b, 0, none⟩ u0).setCell ⟨b, 1, none⟩ u1).setCell ⟨b, 2, none⟩ u2).ownsRow B e 1 v n xs := by
 obtain ⟨hl, h | ⟨k, cap, cur, ev, hB, hg, r⟩⟩ := h
 ·exact ⟨hl, .inl h⟩
 ·have hk : Holds w k e cur := hg
  exact ⟨hl, .inr ⟨k, cap, cur, ev, hB, hk.set3_ne h2 ht, r⟩⟩

end Go.Proofs.Ytifffonoipapgaa
