/- Clocks that are not there. -/
import Derived.Test.YtkjlcfffalmgoaaCkKnown
namespace Go.Proofs.Ytkjlcfffalmgoaa
open Go.ChangeShapes Go.WideShapes Go.ChangeAt Go.RowKit
set_option linter.unusedVariables false
set_option maxRecDepth 100000

section
variable (v : Value) (w : World) (I : Calls Try.prog 21 #[v] w fun e w' => e = .returned (.bool true) ∧ w' = w)
include I
theorem take_n : Calls Try.prog 15 #[v, .int .u64 5] w fun e w' => e = .returned (.tuple #[.bool false, .int .i64 1]) ∧ w' = w := by
  have HI := Lib.hid I
  clear I
  go_enter Try.func15, Try.ntmps15
  go_wp2_with fail
  refine HI.out.mono ?_
  rintro e w1 ⟨rfl, rfl⟩
  go_wp2_with fail
  go_ret2
  exact ⟨rfl, rfl⟩
theorem asks_n : Calls Try.prog 14 #[v, .int .u64 5] w fun e w' => e = .returned (.bool false) ∧ w' = w := by
  have HI := Lib.hid I
  clear I
  go_enter Try.func14, Try.ntmps14
  go_wp2_with fail
  refine HI.out.mono ?_
  rintro e w1 ⟨rfl, rfl⟩
  go_wp2_with fail
  go_ret
  exact ⟨rfl, rfl⟩
theorem at_n : Calls Try.prog 10 #[v] w fun e w' => e = .returned (.int .u64 0) ∧ w' = w := by
  have HI := Lib.hid I
  clear I
  go_enter Try.func10, Try.ntmps10
  go_wp2_with fail
  refine HI.out.mono ?_
  rintro e w1 ⟨rfl, rfl⟩
  go_wp2_with fail
  go_ret
  exact ⟨rfl, rfl⟩
theorem taken_n : Calls Try.prog 11 #[v] w fun e w' => e = .returned (.int .i64 0) ∧ w' = w := by
  have HI := Lib.hid I
  clear I
  go_enter Try.func11, Try.ntmps11
  go_wp2_with fail
  refine HI.out.mono ?_
  rintro e w1 ⟨rfl, rfl⟩
  go_wp2_with fail
  go_ret
  exact ⟨rfl, rfl⟩
theorem copy_n : Calls Try.prog 12 #[v] w fun e w' => e = .returned (.pointer none) ∧ w' = w := by
  have HI := Lib.hid I
  clear I
  go_enter Try.func12, Try.ntmps12
  go_wp2_with fail
  refine HI.out.mono ?_
  rintro e w1 ⟨rfl, rfl⟩
  go_wp2_with fail
  go_ret
  exact ⟨rfl, rfl⟩
end
theorem same_nn (v u : Value) (w : World) (I : Calls Try.prog 21 #[v] w fun e w' => e = .returned (.bool true) ∧ w' = w) (J : Calls Try.prog 21 #[u] w fun e w' => e = .returned (.bool true) ∧ w' = w) :
    Calls Try.prog 18 #[v, u] w fun e w' => e = .returned (.bool true) ∧ w' = w := same_any v u true true 0 0 w I J (at_n v w I) (at_n u w J)
theorem same_ng (v : Value) (g a n : Nat) (w : World) (I : Calls Try.prog 21 #[v] w fun e w' => e = .returned (.bool true) ∧ w' = w) (h : CkB g a n w) :
    Calls Try.prog 18 #[v, .pointer (some ⟨g, 0, none⟩)] w fun e w' => e = .returned (.bool false) ∧ w' = w := same_any v _ true false 0 a w I (isNone_c g a n w h) (at_n v w I) (at_c g a n w h)
theorem same_gn (v : Value) (g a n : Nat) (w : World) (I : Calls Try.prog 21 #[v] w fun e w' => e = .returned (.bool true) ∧ w' = w) (h : CkB g a n w) :
    Calls Try.prog 18 #[.pointer (some ⟨g, 0, none⟩), v] w fun e w' => e = .returned (.bool false) ∧ w' = w := same_any _ v false true a 0 w (isNone_c g a n w h) I (at_c g a n w h) (at_n v w I)
theorem same_gg (g a n h b m : Nat) (w : World) (k1 : CkB g a n w) (k2 : CkB h b m w) :
    Calls Try.prog 18 #[.pointer (some ⟨g, 0, none⟩), .pointer (some ⟨h, 0, none⟩)] w fun e w' => e = .returned (.bool (decide (a = b))) ∧ w' = w := same_any _ _ false false a b w (isNone_c g a n w k1) (isNone_c h b m w k2) (at_c g a n w k1) (at_c h b m w k2)
set_option maxHeartbeats 8000000 in
theorem nothing_c (v : Value) (w : World) (I : ∀ u, Below w.heap.size w u → Calls Try.prog 21 #[v] u fun e w' => e = .returned (.bool true) ∧ w' = u) :
    Calls Try.prog 20 #[v] w fun e w' => e = .returned (.bool true) ∧ Below w.heap.size w w' := by
  have HI := Lib.hid I
  have C1 := Lib.hid (take_n v w (I w (Below.refl _ _)))
  have C2 := Lib.hid (asks_n v w (I w (Below.refl _ _)))
  have C3 := Lib.hid (at_n v w (I w (Below.refl _ _)))
  have C4 := Lib.hid (taken_n v w (I w (Below.refl _ _)))
  have C5 := Lib.hid (copy_n v w (I w (Below.refl _ _)))
  have C6 := Lib.hid (same_nn v (.pointer none) w (I w (Below.refl _ _)) (isNone_nil w))
  clear I
  go_enter Try.func20, Try.ntmps20
  go_wp2_with fail
  refine (C1.out).mono ?_
  rintro e w1 ⟨rfl, rfl⟩
  go_wp2_with fail
  refine (num_c _ _).mono ?_
  rintro e w1 ⟨rfl, rfl⟩
  go_wp2_with fail
  refine (C2.out).mono ?_
  rintro e w1 ⟨rfl, rfl⟩
  go_wp2_with fail
  refine (C3.out).mono ?_
  rintro e w1 ⟨rfl, rfl⟩
  go_wp2_with fail
  refine (C4.out).mono ?_
  rintro e w1 ⟨rfl, rfl⟩
  go_wp2_with fail
  refine (C5.out).mono ?_
  rintro e w1 ⟨rfl, rfl⟩
  go_wp2_with fail
  refine (C6.out).mono ?_
  rintro e w1 ⟨rfl, rfl⟩
  go_wp2_with fail
  refine (new_c 0 _).mono ?_
  rintro e w2 ⟨rfl, k1, b1, -⟩
  have K1 := Lib.hid k1
  have B1 := Lib.hid b1
  obtain ⟨g, hg⟩ : ∃ g, g = w1.heap.size := ⟨_, rfl⟩
  rw [← hg] at K1 ⊢
  clear k1 b1 hg
  go_wp2_with fail
  refine (same_ng v g 0 0 _ (HI.out _ B1.out) K1.out).mono ?_
  rintro e w3 ⟨rfl, rfl⟩
  go_wp2_with fail
  go_ret
  exact ⟨rfl, B1.out⟩
end Go.Proofs.Ytkjlcfffalmgoaa
