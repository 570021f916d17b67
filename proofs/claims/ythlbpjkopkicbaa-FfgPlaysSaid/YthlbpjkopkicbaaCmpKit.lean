/- Contracts: cmp.Compare of numbers, cmp.Or of two. -/
import Derived.Test.YthlbpjkopkicbaaPtKit
import Derived.Deep.RegionHeld3
namespace Go.Proofs.Ythlbpjkopkicbaa
open Go.ChangeShapes Go.WideShapes Go.ChangeAt Go.RowKit
set_option linter.unusedVariables false
set_option maxRecDepth 100000

theorem isNaN_c (a : Nat) (w : World) : Calls Try.prog 69 #[.int .u64 (a : Int)] w fun e w' => e = .returned (.bool false) ∧ w = w' := by
  have h : ((a : Int) != (a : Int)) = false := by simp
  go_enter Try.func69, Try.ntmps69
  go_wp2
  go_ret
  exact ⟨rfl, rfl⟩
/-- -1, 0 or 1. -/
def cmpN (a b : Nat) : Int := if a < b then -1 else if b < a then 1 else 0
theorem compareN_c (a b : Nat) (w : World) : Calls Try.prog 59 #[.int .u64 (a : Int), .int .u64 (b : Int)] w fun e w' => e = .returned (.int .i64 (cmpN a b)) ∧ w = w' := by
  by_cases h1 : a < b
  · have HC := Lib.hid (show cmpN a b = -1 by unfold cmpN; rw [if_pos h1])
    have d1 : decide ((a : Int) < (b : Int)) = true := by simp; omega
    have d1' : decide (a < b) = true := by simpa using h1
    clear h1
    go_enter Try.func59, Try.ntmps59
    go_wp2_with (go_at_call 69; refine (isNaN_c _ _).mono ?_; rintro e w' ⟨rfl, rfl⟩)
    go_ret
    exact ⟨by rw [HC.out]; rfl, rfl⟩
  · have d1 : decide ((a : Int) < (b : Int)) = false := by simp; omega
    have d1' : decide (a < b) = false := by simpa using h1
    by_cases h2 : b < a
    · have HC := Lib.hid (show cmpN a b = 1 by unfold cmpN; rw [if_neg h1, if_pos h2])
      have d2 : decide ((b : Int) < (a : Int)) = true := by simp; omega
      have d2' : decide (b < a) = true := by simpa using h2
      clear h1 h2
      go_enter Try.func59, Try.ntmps59
      go_wp2_with (go_at_call 69; refine (isNaN_c _ _).mono ?_; rintro e w' ⟨rfl, rfl⟩)
      go_ret
      exact ⟨by rw [HC.out]; rfl, rfl⟩
    · have HC := Lib.hid (show cmpN a b = 0 by unfold cmpN; rw [if_neg h1, if_neg h2])
      have d2 : decide ((b : Int) < (a : Int)) = false := by simp; omega
      have d2' : decide (b < a) = false := by simpa using h2
      clear h1 h2
      go_enter Try.func59, Try.ntmps59
      go_wp2_with (go_at_call 69; refine (isNaN_c _ _).mono ?_; rintro e w' ⟨rfl, rfl⟩)
      go_ret
      exact ⟨by rw [HC.out]; rfl, rfl⟩
/-- The first that is not nought. -/
def orI (x y : Int) : Int := if x = 0 then y else x
theorem or2_c (x y : Int) (g n m : Nat) (w : World) (en : n = 2) (h0 : w.cell? ⟨g, 0, none⟩ = some (.int .i64 x)) (h1 : w.cell? ⟨g, 1, none⟩ = some (.int .i64 y)) :
    Calls Try.prog 58 #[.slice (some ⟨g, 0, none⟩) n m] w fun e w' => e = .returned (.int .i64 (orI x y)) ∧ w = w' := by
  subst en
  by_cases hx : x = 0
  · have HC := Lib.hid (show orI x y = y by unfold orI; rw [if_pos hx])
    have d0 : (x != 0) = false := by simpa using hx
    clear hx
    by_cases hy : y = 0
    · have HY := Lib.hid hy
      have d1 : (y != 0) = false := by simpa using hy
      clear hy
      go_enter Try.func58, Try.ntmps58
      go_wp2
      refine wp_loop_rounds 3 ?_
      rw [rounds_succ]
      go_wp2
      rw [rounds_succ]
      go_wp2
      rw [rounds_succ]
      go_wp2
      go_ret
      exact ⟨by rw [HC.out, HY.out]; rfl, rfl⟩
    · have d1 : (y != 0) = true := by simpa using hy
      clear hy
      go_enter Try.func58, Try.ntmps58
      go_wp2
      refine wp_loop_rounds 3 ?_
      rw [rounds_succ]
      go_wp2
      rw [rounds_succ]
      go_wp2
      try rw [Exit.noGoto_ret]
      go_ret
      exact ⟨by rw [HC.out]; rfl, rfl⟩
  · have HC := Lib.hid (show orI x y = x by unfold orI; rw [if_neg hx])
    have d0 : (x != 0) = true := by simpa using hx
    clear hx
    go_enter Try.func58, Try.ntmps58
    go_wp2
    refine wp_loop_rounds 3 ?_
    rw [rounds_succ]
    go_wp2
    try rw [Exit.noGoto_ret]
    go_ret
    exact ⟨by rw [HC.out]; rfl, rfl⟩

end Go.Proofs.Ythlbpjkopkicbaa
