/- Every window is the chapter's: the reference looks for it bit by bit. -/
import Derived.Test.YtfjcfpippbnhhaaWkKit
namespace Go.Proofs.Ytfjcfpippbnhhaa
open Go.ChangeShapes Go.WideShapes Go.ChangeAt Go.RowKit
set_option linter.unusedVariables false
set_option maxRecDepth 100000

/-- One bit more of the window. -/
theorem bit_step (W P q : Nat) (hP : 0 < P) (hq : q = W / P) : q * P = if q / 2 * (2 * P) + P ≤ W then q / 2 * (2 * P) + P else q / 2 * (2 * P) := by
  have h1 : q * P ≤ W := by rw [hq]; exact Nat.div_mul_le_self W P
  have h2 : W < q * P + P := by
    have := Nat.div_add_mod W P
    have h3 := Nat.mod_lt W hP
    rw [← hq, Nat.mul_comm] at this
    omega
  have h4 : q / 2 * (2 * P) = (2 * (q / 2)) * P := by rw [Nat.mul_comm 2 (q / 2), Nat.mul_assoc]
  rw [h4]
  clear h4 hq
  rcases Nat.mod_two_eq_zero_or_one q with h5 | h5
  · have h6 : 2 * (q / 2) = q := by omega
    rw [h6, if_neg (by omega)]
  · have h6 : q = 2 * (q / 2) + 1 := by omega
    have h7 : q * P = 2 * (q / 2) * P + P := by
      have h8 : (2 * (q / 2) + 1) * P = 2 * (q / 2) * P + P := by rw [Nat.add_mul, Nat.one_mul]
      rw [← h6] at h8
      exact h8
    rw [if_pos (by omega)]
    exact h7
theorem fits_iff (d c n : Nat) (hc : 0 < c) (hn : 0 < n) : (c ≤ d / 2 / n) ↔ n ≤ d / (2 * c) := by
  rw [← Nat.div_div_eq_div_mul, Nat.le_div_iff_mul_le hn, Nat.le_div_iff_mul_le hc, Nat.mul_comm]
set_option maxHeartbeats 4000000 in
theorem fits_c (d c n : Nat) (hd : d < 18446744073709551616) (hc : c < 18446744073709551616) (hn : n < 18446744073709551616) (h0 : 0 < c) (h1 : 0 < n) (w : World) : Calls Try.prog 18 #[.int .u64 (d : Int), .int .u64 (c : Int), .int .u64 (n : Int)] w fun e w' => e = .returned (.bool (decide (n ≤ d / (2 * c)))) ∧ w' = w := by
  have hI := fits_iff d c n h0 h1
  have d1 : ((n : Int) == 0) = false := by rw [beq_eq_false_iff_ne]; omega
  have d1' : decide ((n : Int) = 0) = false := by simp; omega
  have hne : ¬ (n : Int) = 0 := by omega
  by_cases hs : c ≤ d / 2 / n
  · rw [decide_eq_true (hI.1 hs)]
    clear hI
    go_enter Try.func18, Try.ntmps18
    go_wp2_with fail
    go_ret
    exact ⟨congrArg (fun b => Ending.returned (.bool b)) (decide_eq_true (by have : ((d / 2 / n : Nat) : Int) = (d : Int) / 2 / (n : Int) := rfl; omega)), rfl⟩
  · rw [decide_eq_false (fun h => hs (hI.2 h))]
    clear hI
    go_enter Try.func18, Try.ntmps18
    go_wp2_with fail
    go_ret
    exact ⟨congrArg (fun b => Ending.returned (.bool b)) (decide_eq_false (by have : ((d / 2 / n : Nat) : Int) = (d : Int) / 2 / (n : Int) := rfl; omega)), rfl⟩
set_option maxHeartbeats 4000000 in
theorem refWindow_c (d c : Nat) (hd : d < 18446744073709551616) (hc : c < 18446744073709551616) (h0 : 0 < c) (w : World) : Calls Try.prog 11 #[.int .u64 (d : Int), .int .u64 (c : Int)] w fun e w' => e = .returned (.int .u64 ((d / (2 * c) : Nat) : Int)) ∧ w' = w := by
  have FC := Lib.hid (fun n (hn : n < 18446744073709551616) (h1 : 0 < n) => fits_c d c n hd hc hn h0 h1)
  obtain ⟨W, hW⟩ : ∃ W, W = d / (2 * c) := ⟨_, rfl⟩
  have hWl : W < 9223372036854775808 := by rw [hW, ← Nat.div_div_eq_div_mul]; exact Nat.lt_of_le_of_lt (Nat.div_le_self _ _) (by omega)
  rw [← hW] at FC ⊢
  clear hW hd hc h0
  have e64 : W / 2 ^ 64 * 2 ^ 64 = 0 := by rw [Nat.div_eq_of_lt (by omega)]
  have HW := Lib.hid hWl
  have HE := Lib.hid e64
  clear hWl e64
  go_enter Try.func11, Try.ntmps11
  go_wp2_with fail
  go_loopw [5, 6] (fun v5 v6 u => ∃ (j b s : Nat), j ≤ 64 ∧ b = 2 ^ j / 2 ∧ s = W / 2 ^ j * 2 ^ j ∧ v6 = .int .u64 (b : Int) ∧ v5 = .int .u64 (s : Int) ∧ u = w) (fun _ v6 _ => (intOf v6).toNat)
  case atStart => exact ⟨64, 9223372036854775808, 0, Nat.le_refl _, by decide, HE.out.symm, rfl, rfl, rfl⟩
  case round =>
    obtain ⟨j, b, s, hj, hb, hs, rfl, rfl, rfl⟩ := hrel
    rcases j with _ | k
    · obtain rfl : b = 0 := by omega
      have e : s = W := by omega
      have HS := Lib.hid e
      clear hb hs e
      go_wp2_with fail
      go_ret
      exact ⟨ret_int (by rw [HS.out]), rfl⟩
    · have hk : k < 64 := by omega
      have hb2 : b = 2 ^ k := by rw [hb, Nat.pow_succ]; omega
      have hle : b ≤ 9223372036854775808 := by rw [hb2]; exact Nat.le_trans (Nat.pow_le_pow_right (by omega) (show k ≤ 63 by omega)) (by decide)
      have hpos : 0 < b := by rw [hb2]; exact Nat.two_pow_pos k
      have hst := bit_step W b (W / b) hpos rfl
      have hs2 : s = W / b / 2 * (2 * b) := by rw [hs, Nat.pow_succ, ← hb2, Nat.div_div_eq_div_mul, Nat.mul_comm 2 b]
      rw [← hs2] at hst
      have hsW : s ≤ W := by rw [hs]; exact Nat.div_mul_le_self _ _
      have hW1 := HW.out
      have hlt : s + b < 18446744073709551616 := by omega
      have F := Lib.hid (FC.out (s + b) hlt (by omega))
      rw [show ((s + b : Nat) : Int) = (s : Int) + (b : Int) from rfl] at F
      have dpos : decide ((b : Int) > 0) = true := by simp; omega
      have HB := Lib.hid hb2
      have HST := Lib.hid hst
      have HBS := Lib.hid (show b / 2 = 2 ^ k / 2 by rw [hb2])
      clear hb hs hb2 hs2 hst hsW hW1
      by_cases hf : s + b ≤ W
      · rw [decide_eq_true hf] at F
        have HF := Lib.hid hf
        clear hf
        go_wp2_with fail
        refine (F.out _).mono ?_
        rintro e w1 ⟨rfl, rfl⟩
        go_wp2_with fail
        exact ⟨⟨k, b / 2, s + b, by omega, HBS.out, by rw [← HB.out, HST.out, if_pos HF.out], rfl, rfl, trivial⟩, by simp [intOf]; omega⟩
      · rw [decide_eq_false hf] at F
        have HF := Lib.hid hf
        clear hf
        go_wp2_with fail
        refine (F.out _).mono ?_
        rintro e w1 ⟨rfl, rfl⟩
        go_wp2_with fail
        exact ⟨⟨k, b / 2, s, by omega, HBS.out, by rw [← HB.out, HST.out, if_neg HF.out], rfl, rfl, trivial⟩, by simp [intOf]; omega⟩
set_option maxHeartbeats 4000000 in
theorem weakWindows_any (d c : Nat) (hd : d < 18446744073709551616) (hc : c < 18446744073709551616) (w : World) : Calls Try.prog 3 #[.int .u64 (d : Int), .int .u64 (c : Int)] w fun r w' => r = .returned (.bool true) ∧ Below w.heap.size w w' := by
  rcases Nat.eq_zero_or_pos c with rfl | h0
  · have WN := Lib.hid (window_no d)
    go_enter Try.func3, Try.ntmps3
    go_wp2_with fail
    refine (WN.out _).mono ?_
    rintro r w1 ⟨rfl, rfl⟩
    go_wp2_with fail
    refine (num_c _ _).mono ?_
    rintro r w1 ⟨rfl, rfl⟩
    go_wp2_with fail
    refine (known_c _).mono ?_
    rintro r w2 ⟨rfl, hb⟩
    go_wp2_with fail
    go_ret
    exact ⟨rfl, hb⟩
  · have WC := Lib.hid (window_c d c hd hc h0)
    have RC := Lib.hid (refWindow_c d c hd hc h0)
    obtain ⟨W, hW⟩ : ∃ W, W = d / (2 * c) := ⟨_, rfl⟩
    rw [← hW] at WC RC
    clear hW
    have d1 : ((c : Int) == 0) = false := by rw [beq_eq_false_iff_ne]; omega
    have d1' : decide ((c : Int) = 0) = false := by simp; omega
    have hne : ¬ (c : Int) = 0 := by omega
    go_enter Try.func3, Try.ntmps3
    go_wp2_with fail
    refine (WC.out _).mono ?_
    rintro r w1 ⟨rfl, rfl⟩
    go_wp2_with fail
    refine (RC.out _).mono ?_
    rintro r w1 ⟨rfl, rfl⟩
    go_wp2_with fail
    refine (num_c _ _).mono ?_
    rintro r w1 ⟨rfl, rfl⟩
    go_wp2_with fail
    refine (known_c _).mono ?_
    rintro r w2 ⟨rfl, hb⟩
    go_wp2_with fail
    go_ret
    exact ⟨rfl, hb⟩
end Go.Proofs.Ytfjcfpippbnhhaa
