
import Derived.Test.YtdpgfaikmahmpaaGAA
import Derived.Test.YtdpgfaikmahmpaaGAC
import Derived.Test.YtdpgfaikmahmpaaGBJ
set_option linter.unusedSimpArgs false
set_option linter.unusedVariables false
namespace Go.Proofs.Ytdpgfaikmahmpaa
open Go.RowKit
theorem handful_all (S : Nat) (A : Option Addr) (n c tk : Nat) (m : Int) (w : World) (hS : Holds w S 172 #[.slice A n c, .int .i64 (tk : Int), .int .u32 m]) (hA : BytesAt w A n) (hn : n ≤ 9223372036854775807) (ht : tk ≤ 1000000) :
  Calls Try.prog 129 #[.pointer (some ⟨S, 0, none⟩)] w (Drawn w S A n c tk) := by
 by_cases h0 : 0 < n
 ·exact handful_pos S A n c tk m w hS hA hn ht h0
 ·obtain rfl : n = 0 := by omega
  cases A with
  | none => exact handful_zero_none S c tk m w hS ht
  | some a => exact handful_zero_some a.block a.off a.spot S c tk m w hS ht
def DrawnTo (w : World) (S : Nat) (A : Option Addr) (n c tk : Nat) (k : Int) (e : Ending) (w' : World) : Prop :=
 ∃ r m : Int, e = .returned (.int .i64 r) ∧ 0 ≤ r ∧ r < max 1 k ∧ r ≤ 65535 ∧ Holds w' S 172 #[.slice A n c, .int .i64 ((tk + 1 : Nat) : Int), .int .u32 m] ∧ w.grownBy w' (some S)
set_option maxRecDepth 100000 in
theorem Below_any (S : Nat) (A : Option Addr) (n c tk : Nat) (m k : Int) (w : World) (hS : Holds w S 172 #[.slice A n c, .int .i64 (tk : Int), .int .u32 m]) (hA : BytesAt w A n) (hn : n ≤ 9223372036854775807) (ht : tk ≤ 1000000)
  (k0 : -1000000 ≤ k) (k1 : k ≤ 1000000) :
  Calls Try.prog 74 #[.pointer (some ⟨S, 0, none⟩), .int .i64 k] w (DrawnTo w S A n c tk k) := by
 by_cases hk : 1 < k
 all_goals
  go_enter Try.func74, Try.ntmps74
  go_wp2_with (go_at_call 129; refine (handful_all S A n c tk m _ hS hA hn ht).mono ?_; rintro e w2 ⟨r, m2, rfl, r0, r1, H2, g2⟩)
  go_ret
 ·have h2 := Int.emod_lt_of_pos r (show 0 < k by omega)
  have h3 : r % k ≤ 65535 := by
   rcases Int.lt_or_le r k with h | h
   ·rw [Int.emod_eq_of_lt r0 h]; omega
   ·omega
  exact ⟨r % k, m2, rfl, Int.emod_nonneg _ (by omega), by omega, h3, H2, g2⟩
 ·exact ⟨0, m2, by simp, by omega, by omega, by omega, H2, g2⟩
def DrawnBool (w : World) (S : Nat) (A : Option Addr) (n c tk : Nat) (e : Ending) (w' : World) : Prop :=
 ∃ (b : Bool) (m : Int), e = .returned (.bool b) ∧ Holds w' S 172 #[.slice A n c, .int .i64 ((tk + 1 : Nat) : Int), .int .u32 m] ∧ w.grownBy w' (some S)
set_option maxRecDepth 100000 in
theorem Rare_any (S : Nat) (A : Option Addr) (n c tk : Nat) (m k : Int) (w : World) (hS : Holds w S 172 #[.slice A n c, .int .i64 (tk : Int), .int .u32 m]) (hA : BytesAt w A n) (hn : n ≤ 9223372036854775807) (ht : tk ≤ 1000000)
  (k0 : -1000000 ≤ k) (k1 : k ≤ 1000000) :
  Calls Try.prog 128 #[.pointer (some ⟨S, 0, none⟩), .int .i64 k] w (DrawnBool w S A n c tk) := by
 go_enter Try.func128, Try.ntmps128
 go_wp2_with (go_at_call 74; refine (Below_any S A n c tk m k _ hS hA hn ht k0 k1).mono ?_; rintro e w2 ⟨r, m2, rfl, r0, r1, r2, H2, g2⟩)
 go_ret
 exact ⟨_, m2, rfl, H2, g2⟩
def DrawnIn (w : World) (S : Nat) (A : Option Addr) (n c tk : Nat) (lo hi : Int) (e : Ending) (w' : World) : Prop :=
 ∃ r m : Int, e = .returned (.int .i64 r) ∧ lo ≤ r ∧ r ≤ max lo hi ∧ r ≤ lo + 65535 ∧ Holds w' S 172 #[.slice A n c, .int .i64 ((tk + 1 : Nat) : Int), .int .u32 m] ∧ w.grownBy w' (some S)
set_option maxRecDepth 100000 in
theorem Among_any (S : Nat) (A : Option Addr) (n c tk : Nat) (m lo hi : Int) (w : World) (hS : Holds w S 172 #[.slice A n c, .int .i64 (tk : Int), .int .u32 m]) (hA : BytesAt w A n) (hn : n ≤ 9223372036854775807) (ht : tk ≤ 1000000)
  (l0 : -200000 ≤ lo) (l1 : lo ≤ 200000) (h0 : -200000 ≤ hi) (h1 : hi ≤ 200000) :
  Calls Try.prog 124 #[.pointer (some ⟨S, 0, none⟩), .int .i64 lo, .int .i64 hi] w (DrawnIn w S A n c tk lo hi) := by
 go_enter Try.func124, Try.ntmps124
 go_wp2_with (go_at_call 74; refine (Below_any S A n c tk m _ _ hS hA hn ht (by omega) (by omega)).mono ?_; rintro e w2 ⟨r, m2, rfl, r0, r1, r2, H2, g2⟩)
 go_ret
 exact ⟨_, m2, rfl, by omega, by omega, by omega, H2, g2⟩
end Go.Proofs.Ytdpgfaikmahmpaa
