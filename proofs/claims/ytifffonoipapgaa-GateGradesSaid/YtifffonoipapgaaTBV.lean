
import Derived.Test.YtifffonoipapgaaTAA
import Derived.Test.YtifffonoipapgaaTAC
import Derived.Test.YtifffonoipapgaaTBD
import Derived.Test.YtifffonoipapgaaTBQ
import Derived.Test.YtifffonoipapgaaTBU
set_option linter.unusedSimpArgs false
set_option linter.unusedVariables false
namespace Go.Proofs.Ytifffonoipapgaa
open Go.RowKit
theorem eqInt_same (A A' : Option Addr) (c c' : Nat) (xs : List Int) (w : World) (hA : IntsAt w A xs) (hA' : IntsAt w A' xs) (hl : xs.length ≤ 1000) :
  Calls Try.prog 54 #[.slice A xs.length c, .slice A' xs.length c'] w fun e w' => e = .returned (.bool true) ∧ Below w.heap.size w w' := by
 have HA := Lib.hid hA
 have HA' := Lib.hid hA'
 have hq : (xs == xs) = true := by simp
 have HQ := Lib.hid hq
 clear hA hA' hq
 go_enter Try.func54, Try.ntmps54
 go_wp2_with (go_at_call 78; refine (EqualInt_eq A A' c c' xs xs _ HA.out HA'.out rfl (by omega)).mono ?_; rw [HQ.out]; rintro e w2 ⟨rfl, hb2⟩)
 go_ret
 exact ⟨rfl, hb2⟩
theorem contains_bel (A : Option Addr) (c : Nat) (xs : List Int) (v : Int) (w : World) (hA : IntsAt w A xs) (hl : xs.length ≤ 1000000) :
  Calls Try.prog 57 #[.slice A xs.length c, .int .i64 v] w fun e w' => e = .returned (.bool (xs.contains v)) ∧ Below w.heap.size w w' := (Contains_any A c xs v w hA hl).mono fun e w' h => ⟨h.1, Below.of_eq h.2⟩
def canIf (W : Int) (B : Bx) (gs : List Gr) : List Int := if W = 0 then canOf B gs else []
theorem canIf_len (W : Int) (B : Bx) (gs : List Gr) : (canIf W B gs).length ≤ gs.length + 1 := by
 unfold canIf
 split
 ·exact canOf_len B gs
 ·simp
theorem Can_tot {E W : Int} {B : Bx} (err miss full emp : Int) (G A : Option Addr) (d c : Nat) (gs : List Gr) (hs : List Hf) (w : World) (hG : GradesAt w G gs) (hgl : gs.length ≤ 1000) (hgd : gs.length ≤ d) (hA : HandsAt w A hs) (hl : hs.length ≤ 1000) (hE : E = bothErr err miss gs full emp hs) (hB : B = boundsOf miss (fun _ => true) hs) (hW : W = boundErr E B) :
  Calls Try.prog 58 #[.agg #[.int .i64 err, .int .i64 miss, .slice G gs.length d], .agg #[.int .i64 full, .int .i64 emp, .slice A hs.length c]] w fun e w' => ∃ (L : Option Addr) (q : Nat), e = .returned (.tuple #[.slice L (canIf W B gs).length q, .int .i64 W]) ∧ IntsAt w' L (canIf W B gs) ∧ Below w.heap.size w w' := by
 by_cases h : E = 0
 ·subst h
  cases he : B.empty with
  | true =>
   rw [boundErr_clash he] at hW
   subst hW
   subst hB
   exact (Can_clash err miss full emp G A d c gs hs w hG hgl hgd hA hl hE.symm he).mono fun e w' h => ⟨none, 0, h.1, fun h => absurd h (Nat.lt_irrefl 0), h.2⟩
  | false =>
   rw [boundErr_ok he] at hW
   subst hW
   subst hB
   refine (Can_ok err miss full emp G A d c gs hs w hG hgl hgd hA hl hE.symm he).mono fun e w' h => ?_
   obtain ⟨v, h1, h2, h3⟩ := h
   obtain ⟨L, q, rfl, hL⟩ := ints_of_row h2
   exact ⟨L, q, h1, hL, h3⟩
 ·rw [boundErr_bad h] at hW
  subst hW
  simp only [canIf, if_neg h]
  have := Can_err err miss full emp G A d c gs hs w hG hgl hgd hA hl (fun e => h (hE.trans e))
  rw [← hE] at this
  exact this.mono fun e w' h => ⟨none, 0, h.1, fun h => absurd h (Nat.lt_irrefl 0), h.2⟩
def sureE (W : Int) (C : List Int) : Int := if W = 0 then sureErr C else W
def sureN (W : Int) (C : List Int) : Int := if W = 0 then sureOf C else 0
theorem Sure_tot {E W : Int} {B : Bx} (err miss full emp : Int) (G A : Option Addr) (d c : Nat) (gs : List Gr) (hs : List Hf) (w : World) (hG : GradesAt w G gs) (hgl : gs.length ≤ 1000) (hgd : gs.length ≤ d) (hA : HandsAt w A hs) (hl : hs.length ≤ 1000) (hE : E = bothErr err miss gs full emp hs) (hB : B = boundsOf miss (fun _ => true) hs) (hW : W = boundErr E B) :
  Calls Try.prog 59 #[.agg #[.int .i64 err, .int .i64 miss, .slice G gs.length d], .agg #[.int .i64 full, .int .i64 emp, .slice A hs.length c]] w fun e w' => e = .returned (.tuple #[.int .i64 (sureN W (canIf W B gs)), .int .i64 (sureE W (canIf W B gs))]) ∧ Below w.heap.size w w' := by
 by_cases h : E = 0
 ·subst h
  cases he : B.empty with
  | true =>
   rw [boundErr_clash he] at hW
   subst hW
   subst hB
   exact Sure_clash err miss full emp G A d c gs hs w hG hgl hgd hA hl hE.symm he
  | false =>
   rw [boundErr_ok he] at hW
   subst hW
   subst hB
   exact Sure_ok err miss full emp G A d c gs hs w hG hgl hgd hA hl hE.symm he
 ·rw [boundErr_bad h] at hW
  subst hW
  simp only [sureN, sureE, if_neg h]
  rw [hE]
  exact Sure_err err miss full emp G A d c gs hs w hG hgl hgd hA hl (fun e => h (hE.trans e))
theorem Pay_tot {E W : Int} {B : Bx} (err miss full emp : Int) (G A : Option Addr) (d c : Nat) (gs : List Gr) (hs : List Hf) (w : World) (hG : GradesAt w G gs) (hgl : gs.length ≤ 1000) (hgd : gs.length ≤ d) (hA : HandsAt w A hs) (hl : hs.length ≤ 1000) (hE : E = bothErr err miss gs full emp hs) (hB : B = boundsOf miss (fun _ => true) hs) (hW : W = boundErr E B) {PL PH : Int}
  (h1 : PL = zIf W (max 0 (full - emp - 2 * err) * loPrice gs (canOf B gs))) (h2 : PH = zIf W (max 0 (full - emp + 2 * err) * hiPrice gs (canOf B gs))) :
  Calls Try.prog 61 #[.agg #[.int .i64 err, .int .i64 miss, .slice G gs.length d], .agg #[.int .i64 full, .int .i64 emp, .slice A hs.length c]] w fun e w' => e = .returned (.tuple #[.agg #[.int .i64 PL, .int .i64 PH], .int .i64 W]) ∧ Below w.heap.size w w' := by
 rw [h1, h2]
 by_cases h : E = 0
 ·subst h
  cases he : B.empty with
  | true =>
   rw [boundErr_clash he] at hW
   subst hW
   subst hB
   exact Pay_clash err miss full emp G A d c gs hs w hG hgl hgd hA hl hE.symm he
  | false =>
   rw [boundErr_ok he] at hW
   subst hW
   subst hB
   exact Pay_ok err miss full emp G A d c gs hs w hG hgl hgd hA hl hE.symm he
 ·rw [boundErr_bad h] at hW
  subst hW
  simp only [zIf, if_neg h]
  rw [hE]
  exact Pay_err err miss full emp G A d c gs hs w hG hgl hgd hA hl (fun e => h (hE.trans e))
def showErr (E k : Int) (B : Bx) (gs : List Gr) : Int := if E ≠ 0 then E else if within k (-1) ((gs.length : Int) - 1) = false then 1 else if B.empty then 7 else if (canOf B gs).contains k then 0 else 6
def ShownM (miss S k : Int) (gs : List Gr) (hs : List Hf) (m0 m1 m2 m3 : Int) : Prop := if S = 0 then mixErr m0 m1 m2 m3 = 0 ∧ hs.all (fitH miss m0 m1 m2 m3) = true ∧ hasN gs m0 m1 m2 m3 = k else m0 = 0 ∧ m1 = 0 ∧ m2 = 0 ∧ m3 = 0
theorem shown_no {miss S k : Int} {gs : List Gr} {hs : List Hf} (h : ¬ S = 0) : ShownM miss S k gs hs 0 0 0 0 := by unfold ShownM; rw [if_neg h]; exact ⟨rfl, rfl, rfl, rfl⟩
theorem Show_tot {E S : Int} {B : Bx} (err miss full emp : Int) (G A : Option Addr) (d c : Nat) (gs : List Gr) (hs : List Hf) (k : Int) (w : World) (hG : GradesAt w G gs) (hgl : gs.length ≤ 1000) (hgd : gs.length ≤ d) (hA : HandsAt w A hs) (hl : hs.length ≤ 1000) (hE : E = bothErr err miss gs full emp hs) (hB : B = boundsOf miss (fun _ => true) hs) (hS : S = showErr E k B gs) :
  Calls Try.prog 60 #[.agg #[.int .i64 err, .int .i64 miss, .slice G gs.length d], .agg #[.int .i64 full, .int .i64 emp, .slice A hs.length c], .int .i64 k] w fun e w' => ∃ m0 m1 m2 m3 : Int, e = .returned (.tuple #[.agg #[.int .i64 m0, .int .i64 m1, .int .i64 m2, .int .i64 m3], .int .i64 S]) ∧ ShownM miss S k gs hs m0 m1 m2 m3 ∧ Below w.heap.size w w' := by
 unfold showErr at hS
 by_cases h : E = 0
 ·subst h
  rw [if_neg (by simp)] at hS
  cases hk : within k (-1) ((gs.length : Int) - 1) with
  | false =>
   rw [if_pos hk] at hS
   subst hS
   exact (Show_not err miss G d gs full emp A c hs w hG hgl hA hl k hE.symm hk).mono fun e w' h => ⟨0, 0, 0, 0, h.1, shown_no (by decide), h.2⟩
  | true =>
   rw [if_neg (by simp [hk])] at hS
   cases he : B.empty with
   | true =>
    rw [if_pos he] at hS
    subst hS
    exact (Show_clash err miss G d gs full emp A c hs w hG hgl hA hl k hE.symm hk (hB ▸ he)).mono fun e w' h => ⟨0, 0, 0, 0, h.1, shown_no (by decide), h.2⟩
   | false =>
    rw [if_neg (by simp [he])] at hS
    obtain ⟨hg0, hc0⟩ := bothErr_zero hE.symm
    have h4 := (gateErr_zero hg0).1
    obtain ⟨h6, _, _, _, _, _, hn⟩ := cartErr_zero hc0
    simp only [within, Bool.and_eq_true, decide_eq_true_eq] at hk
    obtain ⟨j, rfl⟩ : ∃ j : Nat, k = (j : Int) - 1 := ⟨(k + 1).toNat, by omega⟩
    have hj : j ≤ gs.length := by omega
    rw [can_has B hj] at hS
    cases hq : shownBx B gs (ix j) with
    | none =>
     rw [hq, if_neg (by simp)] at hS
     subst hS
     exact (Show_none err miss full emp G A d c gs hs w hG h4 hgd hA h6 hE.symm (hB ▸ he) j hj (hB ▸ hq)).mono fun e w' h => ⟨0, 0, 0, 0, h.1, shown_no (by decide), h.2⟩
    | some b =>
     rw [hq, if_pos (by simp)] at hS
     subst hS
     refine (Show_some err miss full emp G A d c gs hs w hG h4 hgd hA h6 hE.symm (hB ▸ he) j hj b (hB ▸ hq)).mono fun e w' h => ⟨_, _, _, _, h.1, ?_, h.2⟩
     have hBk : B.ok := hB ▸ bounds_ok miss _ hs
     obtain ⟨⟨hs40, _⟩, hb, hg, _⟩ := shownBx_some hBk (ix_lt hj) hq
     have hm := box_mix hBk hb hs40
     unfold ShownM
     rw [if_pos rfl]
     refine ⟨mix_err hm, ?_, has_of_gr hm hg⟩
     rw [← holds_all hn hm, holds_has, ← hB]
     exact hb
 ·rw [if_pos h] at hS
  subst hS
  have := Show_err err miss G d gs full emp A c hs w hG hgl hA hl k (fun e => h (hE.trans e))
  rw [← hE] at this
  exact this.mono fun e w' h1 => ⟨0, 0, 0, 0, h1.1, shown_no h, h1.2⟩
theorem had_is {miss : Int} {gs : List Gr} {hs : List Hf} (hn : ∀ x ∈ hs, x.enough = true) (j : Nat) (hj : j ≤ gs.length) : hadB gs (fitL miss hs) j = (shownBx (boundsOf miss (fun _ => true) hs) gs (ix j)).isSome := by
 have hBk := bounds_ok miss (fun _ => true) hs
 rw [Bool.eq_iff_iff]
 unfold hadB
 rw [List.any_eq_true]
 constructor
 ·rintro ⟨m, hm, h⟩
  obtain ⟨h1, h2⟩ := (fitL_mem hn).1 hm
  have := has_in hBk (gs := gs) h1 h2
  rw [beq_iff_eq.1 h, ← List.contains_iff_mem, can_has _ hj] at this
  exact this
 ·intro h
  obtain ⟨b, hq⟩ := Option.isSome_iff_exists.1 h
  obtain ⟨⟨hs40, _⟩, hb, hg, _⟩ := shownBx_some hBk (ix_lt hj) hq
  exact ⟨_, fitL_in hn hs40 hb, beq_iff_eq.2 (has_of_gr (box_mix hBk hb hs40) hg)⟩
theorem can_some {miss : Int} {gs : List Gr} {hs : List Hf} (hn : ∀ x ∈ hs, x.enough = true) (h : 0 < (fitL miss hs).length) : 0 < (canOf (boundsOf miss (fun _ => true) hs) gs).length := by
 obtain ⟨h1, h2⟩ := (fitL_mem hn).1 (List.getElem_mem (n := 0) h)
 have := has_in (bounds_ok miss (fun _ => true) hs) (gs := gs) h1 h2
 exact List.length_pos_of_mem this
theorem showErr_E {E k : Int} {B : Bx} {gs : List Gr} (h : showErr E k B gs = 0) : E = 0 := by
 unfold showErr at h
 by_cases hE : E = 0
 ·exact hE
 ·rw [if_pos hE] at h; exact absurd h hE
theorem one_head {C : List Int} {n : Int} (h : C.length = 1) (hn : C[0]? = some n) : sureOf C = n ∧ sureErr C = 0 := by
 unfold sureOf sureErr
 rw [if_pos h, if_pos h]
 match C, h with
 | [a], _ => simp at hn; exact ⟨hn, rfl⟩
theorem many_sure {C : List Int} (h : 1 < C.length) : sureOf C = 0 ∧ sureErr C = 6 := by
 unfold sureOf sureErr
 rw [if_neg (by omega), if_neg (by omega)]
 exact ⟨rfl, rfl⟩

end Go.Proofs.Ytifffonoipapgaa
