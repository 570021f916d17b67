/- The chapter's rows of clocks. -/
import Derived.Test.YtkjlcfffalmgoaaCkMore
namespace Go.Proofs.Ytkjlcfffalmgoaa
open Go.ChangeShapes Go.WideShapes Go.ChangeAt Go.RowKit
set_option linter.unusedVariables false
set_option maxRecDepth 100000

theorem num_c (n : Int) (w : World) : Calls Try.prog 16 #[.int .i64 n] w fun r w' => r = .returned (.int .i64 n) ∧ w' = w := by
  go_enter Try.func16, Try.ntmps16
  go_wp2_with fail
  go_ret
  exact ⟨rfl, rfl⟩
theorem Below.of_grown {B g : Nat} {a w w' : World} (h : Below B a w) (hg : w.grownBy w' (some g)) (hB : B ≤ w.heap.size) (hr : B ≤ g) : Below B a w' := Below.grown h hg hB (fun k e => by injection e with e; omega)
theorem RU.nil {w : World} {A : Option Addr} : RU w A [] := fun i z h => by simp at h
theorem RU.three (w : World) (t : TypeId) : RU (w.alloc (.cells #[.int .u64 3, .int .u64 8, .int .u64 2] t)) (some ⟨w.heap.size, 0, none⟩) [3, 8, 2] := fun i z h => by
  have hb := heap_alloc_new w (.cells #[.int .u64 3, .int .u64 8, .int .u64 2] t)
  refine ⟨_, rfl, ?_⟩
  match i, h with
  | 0, h => injection h with h; subst h; exact cell_of_row _ w.heap.size 0 _ _ (0, 0) hb
  | 1, h => injection h with h; subst h; exact cell_of_row _ w.heap.size 1 _ _ (0, 0) hb
  | 2, h => injection h with h; subst h; exact cell_of_row _ w.heap.size 2 _ _ (0, 0) hb
set_option maxHeartbeats 8000000 in
theorem known_c (w : World) : Calls Try.prog 8 #[] w fun r w' => r = .returned (.bool true) ∧ Below w.heap.size w w' := by
  go_enter Try.func8, Try.ntmps8
  go_wp2_with fail
  refine (new_c 5 _).mono ?_
  rintro r w1 ⟨rfl, k1, b1, z1⟩
  obtain ⟨g, hg⟩ : ∃ g, g = w.heap.size := ⟨_, rfl⟩
  rw [← hg] at k1 ⊢
  have B1 := Lib.hid b1
  have HG := Lib.hid hg
  have K1 := Lib.hid k1
  clear b1 hg k1 z1
  go_wp2_with fail
  refine (take_c g 5 0 3 (by decide) _ K1.out).mono ?_
  rintro r w2 ⟨rfl, k2, g2, -⟩
  have B2 := Lib.hid (Below.of_grown B1.out g2 B1.out.size (Nat.le_of_eq HG.out.symm))
  have K2 : Hid (CkB g 5 0 w2) := Lib.hid k2
  clear k2 g2
  go_wp2_with fail
  refine (take_c g 5 0 9 (by decide) _ K2.out).mono ?_
  rintro r w3 ⟨rfl, k3, g3, -⟩
  have B3 := Lib.hid (Below.of_grown B2.out g3 B2.out.size (Nat.le_of_eq HG.out.symm))
  have K3 : Hid (CkB g 9 1 w3) := Lib.hid k3
  clear k3 g3
  go_wp2_with fail
  refine (take_c g 9 1 9 (by decide) _ K3.out).mono ?_
  rintro r w4 ⟨rfl, k4, g4, -⟩
  have B4 := Lib.hid (Below.of_grown B3.out g4 B3.out.size (Nat.le_of_eq HG.out.symm))
  have K4 : Hid (CkB g 9 1 w4) := Lib.hid k4
  clear k4 g4
  go_wp2_with fail
  have G0 := Lib.hid (greatest_c none 0 [] (by decide) w4 RU.nil)
  rw [show mx [] = 0 from rfl] at G0
  refine G0.out.mono ?_
  rintro r w5 ⟨rfl, rfl⟩
  go_wp2_with fail
  obtain ⟨W, hW⟩ : ∃ W, W = w5.alloc (.cells #[.int .u64 3, .int .u64 8, .int .u64 2] 22) := ⟨_, rfl⟩
  have R3 : Hid (RU W (some ⟨w5.heap.size, 0, none⟩) [3, 8, 2]) := Lib.hid (by rw [hW]; exact RU.three w5 _)
  have bw : Below w5.heap.size w5 W := by rw [hW]; exact (Below.refl _ _).alloc (Nat.le_refl _) _
  have K5 : Hid (CkB g 9 1 W) := Lib.hid (K4.out.below bw K4.out.lt)
  have B5 : Hid (Below w.heap.size w W) := Lib.hid (B4.out.trans (bw.mono B4.out.size))
  rw [← hW]
  clear hW bw
  have G1 := Lib.hid (greatest_c _ 3 [3, 8, 2] (by decide) _ R3.out)
  rw [show mx [3, 8, 2] = 8 from rfl] at G1
  refine G1.out.mono ?_
  rintro r w6 ⟨rfl, rfl⟩
  go_wp2_with fail
  refine (num_c _ _).mono ?_
  rintro r w7 ⟨rfl, rfl⟩
  go_wp2_with fail
  refine (num_c _ _).mono ?_
  rintro r w8 ⟨rfl, rfl⟩
  go_wp2_with fail
  refine (num_c _ _).mono ?_
  rintro r w9 ⟨rfl, rfl⟩
  go_wp2_with fail
  refine (at_c g 9 1 _ K5.out).mono ?_
  rintro r w10 ⟨rfl, rfl⟩
  go_wp2_with fail
  refine (taken_c g 9 1 _ K5.out).mono ?_
  rintro r w11 ⟨rfl, rfl⟩
  go_wp2_with fail
  go_ret
  exact ⟨rfl, B5.out⟩
end Go.Proofs.Ytkjlcfffalmgoaa
