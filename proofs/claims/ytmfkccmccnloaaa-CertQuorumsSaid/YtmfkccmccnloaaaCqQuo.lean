/- Which stakes are a quorum. -/
import Derived.Test.YtmfkccmccnloaaaMem
import Derived.Test.YtmfkccmccnloaaaWoFill
import Derived.Shelf.Bits.Mul64
namespace Go.Proofs.Ytmfkccmccnloaaa
set_option linter.unusedVariables false
set_option maxRecDepth 100000

theorem maskI (a : Int) (h0 : 0 ≤ a) (h1 : a < 18446744073709551616) : bits .and .u64 a 4294967295 = a % 4294967296 := by
  obtain ⟨n, rfl⟩ := Int.eq_ofNat_of_zero_le h0
  rw [Mul64.maskN n (by omega)]
  omega
theorem wrapI (a : Int) (h0 : 0 ≤ a) (h1 : a < 18446744073709551616) : IntKind.u64.wrap a = a := by rw [IntKind.wrap_u64]; omega
theorem two_nums {a b c d : Int} (h : a = c) (h' : b = d) : Ending.returned (.tuple #[.int .u64 a, .int .u64 b]) = Ending.returned (.tuple #[.int .u64 c, .int .u64 d]) := by rw [h, h']
set_option maxHeartbeats 4000000 in
theorem mul3_c (y : Nat) (hy : y < 18446744073709551616) (w : World) : Calls Try.prog 37 #[.int .u64 3, .int .u64 (y : Int)] w fun e w' => e = .returned (.tuple #[.int .u64 ((3 * y / 18446744073709551616 : Nat) : Int), .int .u64 ((3 * y % 18446744073709551616 : Nat) : Int)]) ∧ w' = w := by
  have m1 := Mul64.maskN y hy
  go_enter Try.func37, Try.ntmps37
  go_wp2_with fail
  go_ret2
  refine ⟨two_nums ?_ ?_, rfl⟩
  · have e1 : ((3 * y / 18446744073709551616 : Nat) : Int) = ((3 * y / 4294967296 / 4294967296 : Nat) : Int) := by rw [Nat.div_div_eq_div_mul]
    have e2 : 3 * y / 4294967296 = 3 * (y / 4294967296) + 3 * (y % 4294967296) / 4294967296 := by omega
    simp (disch := omega) only [wrapI, maskI]
    rw [e1, e2]
    clear e1 e2
    omega
  · rw [IntKind.wrap_u64]
    omega
set_option maxHeartbeats 4000000 in
theorem mul2_c (y : Nat) (hy : y < 18446744073709551616) (w : World) : Calls Try.prog 37 #[.int .u64 2, .int .u64 (y : Int)] w fun e w' => e = .returned (.tuple #[.int .u64 ((2 * y / 18446744073709551616 : Nat) : Int), .int .u64 ((2 * y % 18446744073709551616 : Nat) : Int)]) ∧ w' = w := by
  have m1 := Mul64.maskN y hy
  go_enter Try.func37, Try.ntmps37
  go_wp2_with fail
  go_ret2
  refine ⟨two_nums ?_ ?_, rfl⟩
  · have e1 : ((2 * y / 18446744073709551616 : Nat) : Int) = ((2 * y / 4294967296 / 4294967296 : Nat) : Int) := by rw [Nat.div_div_eq_div_mul]
    have e2 : 2 * y / 4294967296 = 2 * (y / 4294967296) + 2 * (y % 4294967296) / 4294967296 := by omega
    simp (disch := omega) only [wrapI, maskI]
    rw [e1, e2]
    clear e1 e2
    omega
  · rw [IntKind.wrap_u64]
    omega
/-- Which stakes are a quorum, plainly. -/
def quoN (a b : Nat) : Bool := decide (2 * b ≤ 3 * a)
set_option maxHeartbeats 4000000 in
theorem quorum_c (a b : Nat) (ha : a < 18446744073709551616) (hb : b < 18446744073709551616) (w : World) : Calls Try.prog 16 #[.int .u64 (a : Int), .int .u64 (b : Int)] w fun e w' => e = .returned (.bool (quoN a b)) ∧ w' = w := by
  have H3 := Lib.hid (mul3_c a ha)
  have H2 := Lib.hid (mul2_c b hb)
  obtain ⟨h3, e3⟩ : ∃ n, n = 3 * a / 18446744073709551616 := ⟨_, rfl⟩
  obtain ⟨l3, f3⟩ : ∃ n, n = 3 * a % 18446744073709551616 := ⟨_, rfl⟩
  obtain ⟨h2, e2⟩ : ∃ n, n = 2 * b / 18446744073709551616 := ⟨_, rfl⟩
  obtain ⟨l2, f2⟩ : ∃ n, n = 2 * b % 18446744073709551616 := ⟨_, rfl⟩
  rw [← e3, ← f3] at H3
  rw [← e2, ← f2] at H2
  have E := Lib.hid (And.intro e3 (And.intro f3 (And.intro e2 f2)))
  clear e3 f3 e2 f2 ha hb
  go_enter Try.func16, Try.ntmps16
  go_wp2_with fail
  refine (H3.out w).mono ?_
  rintro e w1 ⟨rfl, rfl⟩
  go_wp2_with fail
  refine (H2.out w1).mono ?_
  rintro e w2 ⟨rfl, rfl⟩
  by_cases c2 : h2 < h3
  · have d2 : decide ((h3 : Int) > (h2 : Int)) = true := by simp; omega
    have d2' : decide ((h2 : Int) < (h3 : Int)) = true := by simp; omega
    go_wp2_with fail
    go_ret
    refine ⟨?_, rfl⟩
    rw [show quoN a b = true from decide_eq_true (by have := E.out; omega)]
    rfl
  · have d2 : decide ((h3 : Int) > (h2 : Int)) = false := by simp; omega
    have d2' : decide ((h2 : Int) < (h3 : Int)) = false := by simp; omega
    by_cases c3 : h3 = h2
    · have d3 : ((h3 : Int) == (h2 : Int)) = true := by rw [beq_iff_eq]; omega
      have d3' : decide ((h3 : Int) = (h2 : Int)) = true := by simp; omega
      by_cases c4 : l2 ≤ l3
      · have d4 : decide ((l3 : Int) ≥ (l2 : Int)) = true := by simp; omega
        have d4' : decide ((l2 : Int) ≤ (l3 : Int)) = true := by simp; omega
        go_wp2_with fail
        go_ret
        refine ⟨?_, rfl⟩
        rw [show quoN a b = true from decide_eq_true (by have := E.out; omega)]
        rfl
      · have d4 : decide ((l3 : Int) ≥ (l2 : Int)) = false := by simp; omega
        have d4' : decide ((l2 : Int) ≤ (l3 : Int)) = false := by simp; omega
        go_wp2_with fail
        go_ret
        refine ⟨?_, rfl⟩
        rw [show quoN a b = false from decide_eq_false (by have := E.out; omega)]
        rfl
    · have d3 : ((h3 : Int) == (h2 : Int)) = false := by rw [beq_eq_false_iff_ne]; omega
      have d3' : decide ((h3 : Int) = (h2 : Int)) = false := by simp; omega
      go_wp2_with fail
      go_ret
      refine ⟨?_, rfl⟩
      rw [show quoN a b = false from decide_eq_false (by have := E.out; omega)]
      rfl
set_option maxHeartbeats 4000000 in
theorem parts30_c (n : Nat) (hn : n < 18446744073709551616) (w : World) : Calls Try.prog 15 #[.int .u64 (n : Int), .int .u64 3, .int .i64 0] w fun e w' => e = .returned (.int .u64 ((3 * n / 4294967296 : Nat) : Int)) ∧ w' = w := by
  go_enter Try.func15, Try.ntmps15
  go_wp2_with fail
  go_ret
  refine ⟨?_, rfl⟩
  rw [show ((n : Int) / 4294967296 * 3 + (n : Int) % 4294967296 * 3 / 4294967296) = ((3 * n / 4294967296 : Nat) : Int) by omega]
  rfl
set_option maxHeartbeats 4000000 in
theorem parts31_c (n : Nat) (hn : n < 18446744073709551616) (w : World) : Calls Try.prog 15 #[.int .u64 (n : Int), .int .u64 3, .int .i64 1] w fun e w' => e = .returned (.int .u64 ((3 * n % 4294967296 : Nat) : Int)) ∧ w' = w := by
  go_enter Try.func15, Try.ntmps15
  go_wp2_with fail
  go_ret
  refine ⟨?_, rfl⟩
  rw [show ((n : Int) % 4294967296 * 3 % 4294967296) = ((3 * n % 4294967296 : Nat) : Int) by omega]
  rfl
set_option maxHeartbeats 4000000 in
theorem parts20_c (n : Nat) (hn : n < 18446744073709551616) (w : World) : Calls Try.prog 15 #[.int .u64 (n : Int), .int .u64 2, .int .i64 0] w fun e w' => e = .returned (.int .u64 ((2 * n / 4294967296 : Nat) : Int)) ∧ w' = w := by
  go_enter Try.func15, Try.ntmps15
  go_wp2_with fail
  go_ret
  refine ⟨?_, rfl⟩
  rw [show ((n : Int) / 4294967296 * 2 + (n : Int) % 4294967296 * 2 / 4294967296) = ((2 * n / 4294967296 : Nat) : Int) by omega]
  rfl
set_option maxHeartbeats 4000000 in
theorem parts21_c (n : Nat) (hn : n < 18446744073709551616) (w : World) : Calls Try.prog 15 #[.int .u64 (n : Int), .int .u64 2, .int .i64 1] w fun e w' => e = .returned (.int .u64 ((2 * n % 4294967296 : Nat) : Int)) ∧ w' = w := by
  go_enter Try.func15, Try.ntmps15
  go_wp2_with fail
  go_ret
  refine ⟨?_, rfl⟩
  rw [show ((n : Int) % 4294967296 * 2 % 4294967296) = ((2 * n % 4294967296 : Nat) : Int) by omega]
  rfl
set_option maxHeartbeats 4000000 in
theorem known_c (w : World) : Calls Try.prog 6 #[] w fun e w' => e = .returned (.bool true) ∧ w' = w := by
  have k1 := Lib.hid (quorum_c 2 3 (by decide) (by decide))
  have k2 := Lib.hid (quorum_c 1 2 (by decide) (by decide))
  have k3 := Lib.hid (quorum_c 0 0 (by decide) (by decide))
  go_enter Try.func6, Try.ntmps6
  go_wp2_with fail
  refine (k1.out w).mono ?_
  rintro e w1 ⟨rfl, rfl⟩
  rw [show quoN 2 3 = true from rfl]
  go_wp2_with fail
  refine (k2.out w1).mono ?_
  rintro e w2 ⟨rfl, rfl⟩
  rw [show quoN 1 2 = false from rfl]
  go_wp2_with fail
  refine (k3.out w2).mono ?_
  rintro e w3 ⟨rfl, rfl⟩
  rw [show quoN 0 0 = true from rfl]
  go_wp2_with fail
  go_ret
  exact ⟨rfl, rfl⟩
end Go.Proofs.Ytmfkccmccnloaaa
