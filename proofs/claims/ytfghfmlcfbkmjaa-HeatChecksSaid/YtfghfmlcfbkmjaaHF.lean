/- Small functions of package heat. -/
import Derived.Test.YtfghfmlcfbkmjaaHE
set_option linter.unusedSimpArgs false
set_option linter.unusedVariables false
namespace Go.Proofs.Ytfghfmlcfbkmjaa
open Go.RowKit

theorem within_any (n lo hi : Int) (w : World) :
    Calls Try.prog 51 #[.int .i64 n, .int .i64 lo, .int .i64 hi] w fun e w' => e = .returned (.bool (within n lo hi)) ∧ w = w' := by
  unfold within
  by_cases h1 : lo ≤ n <;> by_cases h2 : n ≤ hi
  all_goals
    go_enter Try.func51, Try.ntmps51
    go_wp2
    go_ret
    simp [*]
theorem isRise_any (n : Int) (w : World) :
    Calls Try.prog 53 #[.int .i64 n] w fun e w' => e = .returned (.bool (riseOk n)) ∧ Below w.heap.size w w' := by
  by_cases h0 : n = 0
  · subst h0
    go_enter Try.func53, Try.ntmps53
    go_wp2_with (go_at_call 51; refine (within_any _ _ _ _).mono ?_; rintro e w' ⟨rfl, rfl⟩)
    go_ret
    exact ⟨rfl, by (repeat' (first | (with_reducible exact Below.refl _ _) | (with_reducible assumption) | (with_reducible refine Below.alloc ?_ ?_ _) | (with_reducible refine Below.drew ?_) | (with_reducible refine Below.setCell ?_ ?_ _) | (with_reducible exact Nat.le_refl _) | omega | (simp only [World.size_alloc, World.size_setCell, World.size_drew]; omega) | (simp; omega) | (simp; done)))⟩
  · have hr : riseOk n = within n 6 20 := by unfold riseOk; rw [show (n == 0) = false from by simpa using h0]; rfl
    rw [hr]
    go_enter Try.func53, Try.ntmps53
    go_wp2_with (go_at_call 51; refine (within_any _ _ _ _).mono ?_; rintro e w' ⟨rfl, rfl⟩)
    go_ret
    exact ⟨by first | rfl | (simp; done) | (simp; intro h; exact absurd h h0), by (repeat' (first | (with_reducible exact Below.refl _ _) | (with_reducible assumption) | (with_reducible refine Below.alloc ?_ ?_ _) | (with_reducible refine Below.drew ?_) | (with_reducible refine Below.setCell ?_ ?_ _) | (with_reducible exact Nat.le_refl _) | omega | (simp only [World.size_alloc, World.size_setCell, World.size_drew]; omega) | (simp; omega) | (simp; done)))⟩
theorem hasClasses_any (lo hi : Int) (w : World) :
    Calls Try.prog 62 #[.agg #[.int .i64 lo, .int .i64 hi]] w fun e w' => e = .returned (.bool (within lo 0 5 && within hi 0 5)) ∧ Below w.heap.size w w' := by
  cases h1 : within lo 0 5
  all_goals
    go_enter Try.func62, Try.ntmps62
    go_wp2_with (go_at_call 51; refine (within_any _ _ _ _).mono ?_; (try simp only [h1]); rintro e w' ⟨rfl, rfl⟩)
    go_ret
    exact ⟨by first | rfl | simp, by (repeat' (first | (with_reducible exact Below.refl _ _) | (with_reducible assumption) | (with_reducible refine Below.alloc ?_ ?_ _) | (with_reducible refine Below.drew ?_) | (with_reducible refine Below.setCell ?_ ?_ _) | (with_reducible exact Nat.le_refl _) | omega | (simp only [World.size_alloc, World.size_setCell, World.size_drew]; omega) | (simp; omega) | (simp; done)))⟩
theorem isEmpty_any (lo hi : Int) (w : World) :
    Calls Try.prog 63 #[.agg #[.int .i64 lo, .int .i64 hi]] w fun e w' => e = .returned (.bool (decide (hi < lo))) ∧ Below w.heap.size w w' := by
  go_enter Try.func63, Try.ntmps63
  go_wp2_with fail
  go_ret
  exact ⟨by first | rfl | simp, by (repeat' (first | (with_reducible exact Below.refl _ _) | (with_reducible assumption) | (with_reducible refine Below.alloc ?_ ?_ _) | (with_reducible refine Below.drew ?_) | (with_reducible refine Below.setCell ?_ ?_ _) | (with_reducible exact Nat.le_refl _) | omega | (simp only [World.size_alloc, World.size_setCell, World.size_drew]; omega) | (simp; omega) | (simp; done)))⟩
theorem isInOrder_any (b : Bn) (w : World) :
    Calls Try.prog 57 #[.agg #[.int .i64 b.warm, .int .i64 b.mark, .int .i64 b.lo, .int .i64 b.hi]] w fun e w' => e = .returned (.bool b.inOrder) ∧ Below w.heap.size w w' := by
  go_enter Try.func57, Try.ntmps57
  go_wp2_with (go_at_call 63; refine (isEmpty_any _ _ _).mono ?_; rintro e w2 ⟨rfl, hb2⟩)
  go_ret
  refine ⟨?_, Below.trans (by (repeat' (first | (with_reducible exact Below.refl _ _) | (with_reducible assumption) | (with_reducible refine Below.alloc ?_ ?_ _) | (with_reducible refine Below.drew ?_) | (with_reducible refine Below.setCell ?_ ?_ _) | (with_reducible exact Nat.le_refl _) | omega | (simp only [World.size_alloc, World.size_setCell, World.size_drew]; omega) | (simp; omega) | (simp; done)))) (hb2.mono (by first | exact Nat.le_refl _ | (simp; done) | (simp; omega)))⟩
  by_cases h : b.hi < b.lo
  · have h' : ¬ b.lo ≤ b.hi := by omega
    simp [Bn.inOrder, h, h']
  · have h' : b.lo ≤ b.hi := by omega
    simp [Bn.inOrder, h, h']
theorem isBin_any (b : Bn) (w : World) :
    Calls Try.prog 55 #[.agg #[.int .i64 b.warm, .int .i64 b.mark, .int .i64 b.lo, .int .i64 b.hi]] w fun e w' => e = .returned (.bool b.inRange) ∧ Below w.heap.size w w' := by
  cases h1 : within b.mark 0 60
  · go_enter Try.func55, Try.ntmps55
    go_wp2_with (go_at_call 51; refine (within_any _ _ _ _).mono ?_; (try simp only [h1]); rintro e w' ⟨rfl, rfl⟩)
    go_ret
    exact ⟨by simp [Bn.inRange, h1], by (repeat' (first | (with_reducible exact Below.refl _ _) | (with_reducible assumption) | (with_reducible refine Below.alloc ?_ ?_ _) | (with_reducible refine Below.drew ?_) | (with_reducible refine Below.setCell ?_ ?_ _) | (with_reducible exact Nat.le_refl _) | omega | (simp only [World.size_alloc, World.size_setCell, World.size_drew]; omega) | (simp; omega) | (simp; done)))⟩
  · cases h2 : within b.warm 0 b.mark
    · go_enter Try.func55, Try.ntmps55
      go_wp2_with (go_at_call 51; refine (within_any _ _ _ _).mono ?_; (try simp only [h1, h2]); rintro e w' ⟨rfl, rfl⟩)
      go_ret
      exact ⟨by simp [Bn.inRange, h1, h2], by (repeat' (first | (with_reducible exact Below.refl _ _) | (with_reducible assumption) | (with_reducible refine Below.alloc ?_ ?_ _) | (with_reducible refine Below.drew ?_) | (with_reducible refine Below.setCell ?_ ?_ _) | (with_reducible exact Nat.le_refl _) | omega | (simp only [World.size_alloc, World.size_setCell, World.size_drew]; omega) | (simp; omega) | (simp; done)))⟩
    · have E := Lib.hid (show b.inRange = (within b.lo 0 5 && within b.hi 0 5) by simp [Bn.inRange, h1, h2])
      go_enter Try.func55, Try.ntmps55
      go_wp2_with (first
        | (go_at_call 51; refine (within_any _ _ _ _).mono ?_; (try simp only [h1, h2]); rintro e w' ⟨rfl, rfl⟩)
        | (go_at_call 62; refine (hasClasses_any _ _ _).mono ?_; rintro e w2 ⟨rfl, hb2⟩))
      go_ret
      exact ⟨by rw [E.out]; first | rfl | simp, Below.trans (by (repeat' (first | (with_reducible exact Below.refl _ _) | (with_reducible assumption) | (with_reducible refine Below.alloc ?_ ?_ _) | (with_reducible refine Below.drew ?_) | (with_reducible refine Below.setCell ?_ ?_ _) | (with_reducible exact Nat.le_refl _) | omega | (simp only [World.size_alloc, World.size_setCell, World.size_drew]; omega) | (simp; omega) | (simp; done)))) (hb2.mono (by first | exact Nat.le_refl _ | (simp; done) | (simp; omega)))⟩
end Go.Proofs.Ytfghfmlcfbkmjaa
