/- As many times as great: every three numbers. -/
import Derived.Test.YtfjcfpippbnhhaaWkKit
namespace Go.Proofs.Ytfjcfpippbnhhaa
open Go.ChangeShapes Go.WideShapes Go.ChangeAt Go.RowKit
set_option linter.unusedVariables false
set_option maxRecDepth 100000

set_option maxHeartbeats 8000000 in
theorem weakScales_any (d c t : Nat) (hd : d < 18446744073709551616) (hc : c < 18446744073709551616) (ht : t < 18446744073709551616) (w : World) : Calls Try.prog 7 #[.int .u64 (d : Int), .int .u64 (c : Int), .int .u64 (t : Int)] w fun r w' => r = .returned (.bool true) ∧ Below w.heap.size w w' := by
  by_cases c1 : 1048576 ≤ d
  · have i_d : decide ((d : Int) ≥ 1048576) = true := by simp; omega
    have j_d : decide (1048576 ≤ (d : Int)) = true := by simp; omega
    go_enter Try.func7, Try.ntmps7
    go_wp2_with fail
    refine (known_c _).mono ?_
    rintro r w1 ⟨rfl, hb⟩
    go_wp2_with fail
    go_ret
    exact ⟨rfl, hb⟩
  by_cases c2 : 1048576 ≤ c
  · have i_d : decide ((d : Int) ≥ 1048576) = false := by simp; omega
    have j_d : decide (1048576 ≤ (d : Int)) = false := by simp; omega
    have k_d : ¬ 1048576 ≤ d := by omega
    have i_c : decide ((c : Int) ≥ 1048576) = true := by simp; omega
    have j_c : decide (1048576 ≤ (c : Int)) = true := by simp; omega
    go_enter Try.func7, Try.ntmps7
    go_wp2_with fail
    refine (known_c _).mono ?_
    rintro r w1 ⟨rfl, hb⟩
    go_wp2_with fail
    go_ret
    exact ⟨rfl, hb⟩
  by_cases c3 : 1048576 ≤ t
  · have i_d : decide ((d : Int) ≥ 1048576) = false := by simp; omega
    have j_d : decide (1048576 ≤ (d : Int)) = false := by simp; omega
    have k_d : ¬ 1048576 ≤ d := by omega
    have i_c : decide ((c : Int) ≥ 1048576) = false := by simp; omega
    have j_c : decide (1048576 ≤ (c : Int)) = false := by simp; omega
    have k_c : ¬ 1048576 ≤ c := by omega
    have i_t : decide ((t : Int) ≥ 1048576) = true := by simp; omega
    have j_t : decide (1048576 ≤ (t : Int)) = true := by simp; omega
    go_enter Try.func7, Try.ntmps7
    go_wp2_with fail
    refine (known_c _).mono ?_
    rintro r w1 ⟨rfl, hb⟩
    go_wp2_with fail
    go_ret
    exact ⟨rfl, hb⟩
  rcases Nat.eq_zero_or_pos c with rfl | c4
  · have i_d : decide ((d : Int) ≥ 1048576) = false := by simp; omega
    have j_d : decide (1048576 ≤ (d : Int)) = false := by simp; omega
    have k_d : ¬ 1048576 ≤ d := by omega
    have i_t : decide ((t : Int) ≥ 1048576) = false := by simp; omega
    have j_t : decide (1048576 ≤ (t : Int)) = false := by simp; omega
    have k_t : ¬ 1048576 ≤ t := by omega
    go_enter Try.func7, Try.ntmps7
    go_wp2_with fail
    refine (known_c _).mono ?_
    rintro r w1 ⟨rfl, hb⟩
    go_wp2_with fail
    go_ret
    exact ⟨rfl, hb⟩
  rcases Nat.eq_zero_or_pos t with rfl | c5
  · have i_d : decide ((d : Int) ≥ 1048576) = false := by simp; omega
    have j_d : decide (1048576 ≤ (d : Int)) = false := by simp; omega
    have k_d : ¬ 1048576 ≤ d := by omega
    have i_c : decide ((c : Int) ≥ 1048576) = false := by simp; omega
    have j_c : decide (1048576 ≤ (c : Int)) = false := by simp; omega
    have k_c : ¬ 1048576 ≤ c := by omega
    have n_c : ((c : Int) == 0) = false := by rw [beq_eq_false_iff_ne]; omega
    have m_c : decide ((c : Int) = 0) = false := by simp; omega
    have l_c : ¬ (c : Int) = 0 := by omega
    go_enter Try.func7, Try.ntmps7
    go_wp2_with fail
    refine (known_c _).mono ?_
    rintro r w1 ⟨rfl, hb⟩
    go_wp2_with fail
    go_ret
    exact ⟨rfl, hb⟩
  have b1 : d * t < 1099511627776 := Nat.lt_of_le_of_lt (Nat.mul_le_mul (show d ≤ 1048575 by omega) (show t ≤ 1048575 by omega)) (by decide)
  have b2 : c * t < 1099511627776 := Nat.lt_of_le_of_lt (Nat.mul_le_mul (show c ≤ 1048575 by omega) (show t ≤ 1048575 by omega)) (by decide)
  have b3 : 2 * c * t < 2199023255552 := by rw [Nat.mul_assoc]; omega
  have b4 : 0 < c * t := Nat.mul_pos c4 c5
  have W1 := window_c d c hd hc c4
  have W2 := window_c (d * t) (c * t) (by omega) (by omega) b4
  have W3 := window_c (d + 2 * c * t) c (by omega) hc c4
  rw [show d * t / (2 * (c * t)) = d / (2 * c) by rw [← Nat.mul_assoc, Nat.mul_div_mul_right _ _ c5]] at W2
  rw [show (d + 2 * c * t) / (2 * c) = d / (2 * c) + t from Nat.add_mul_div_left _ _ (by omega)] at W3
  obtain ⟨W, hW⟩ : ∃ W, W = d / (2 * c) := ⟨_, rfl⟩
  rw [← hW] at W1 W2 W3
  have hWl : W < 1048576 := by rw [hW]; exact Nat.lt_of_le_of_lt (Nat.div_le_self _ _) (by omega)
  obtain ⟨x, ex⟩ : ∃ x, x = d * t := ⟨_, rfl⟩
  obtain ⟨y, ey⟩ : ∃ y, y = c * t := ⟨_, rfl⟩
  obtain ⟨z, ez⟩ : ∃ z, z = 2 * c * t := ⟨_, rfl⟩
  have e1 : (d : Int) * (t : Int) = (x : Int) := by rw [ex]; rfl
  have e2 : (c : Int) * (t : Int) = (y : Int) := by rw [ey]; rfl
  have e3 : 2 * (c : Int) * (t : Int) = (z : Int) := by rw [ez]; rfl
  rw [← ex] at W2 b1
  rw [← ey] at W2 b2 b4
  rw [← ez] at W3 b3
  rw [show ((d + z : Nat) : Int) = (d : Int) + (z : Int) from rfl] at W3
  rw [show ((W + t : Nat) : Int) = (W : Int) + (t : Int) from rfl] at W3
  replace W1 := Lib.hid W1
  replace W2 := Lib.hid W2
  replace W3 := Lib.hid W3
  clear ex ey ez hW
  have i_d : decide ((d : Int) ≥ 1048576) = false := by simp; omega
  have j_d : decide (1048576 ≤ (d : Int)) = false := by simp; omega
  have k_d : ¬ 1048576 ≤ d := by omega
  have i_c : decide ((c : Int) ≥ 1048576) = false := by simp; omega
  have j_c : decide (1048576 ≤ (c : Int)) = false := by simp; omega
  have k_c : ¬ 1048576 ≤ c := by omega
  have i_t : decide ((t : Int) ≥ 1048576) = false := by simp; omega
  have j_t : decide (1048576 ≤ (t : Int)) = false := by simp; omega
  have k_t : ¬ 1048576 ≤ t := by omega
  have n_c : ((c : Int) == 0) = false := by rw [beq_eq_false_iff_ne]; omega
  have m_c : decide ((c : Int) = 0) = false := by simp; omega
  have l_c : ¬ (c : Int) = 0 := by omega
  have n_t : ((t : Int) == 0) = false := by rw [beq_eq_false_iff_ne]; omega
  have m_t : decide ((t : Int) = 0) = false := by simp; omega
  have l_t : ¬ (t : Int) = 0 := by omega
  go_enter Try.func7, Try.ntmps7
  go_wp2_with fail
  refine (W1.out _).mono ?_
  rintro r w1 ⟨rfl, rfl⟩
  go_wp2_with fail
  refine (W2.out _).mono ?_
  rintro r w1 ⟨rfl, rfl⟩
  go_wp2_with fail
  refine (W3.out _).mono ?_
  rintro r w1 ⟨rfl, rfl⟩
  go_wp2_with fail
  refine (num_c _ _).mono ?_
  rintro r w1 ⟨rfl, rfl⟩
  go_wp2_with fail
  refine (num_c _ _).mono ?_
  rintro r w1 ⟨rfl, rfl⟩
  go_wp2_with fail
  refine (num_c _ _).mono ?_
  rintro r w1 ⟨rfl, rfl⟩
  go_wp2_with fail
  refine (known_c _).mono ?_
  rintro r w2 ⟨rfl, hb⟩
  go_wp2_with fail
  go_ret
  exact ⟨rfl, hb⟩
end Go.Proofs.Ytfjcfpippbnhhaa
