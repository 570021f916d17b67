/- What follows of the window: every seven numbers. -/
import Derived.Test.YtfjcfpippbnhhaaWkKit
namespace Go.Proofs.Ytfjcfpippbnhhaa
open Go.ChangeShapes Go.WideShapes Go.ChangeAt Go.RowKit
set_option linter.unusedVariables false
set_option maxRecDepth 100000

set_option maxHeartbeats 4000000 in
theorem times_c (d c n : Nat) (hd : d < 18446744073709551616) (hc : c < 18446744073709551616) (hn : n ≤ 1001) (w : World) : Calls Try.prog 17 #[.int .u64 (d : Int), .int .u64 (c : Int), .int .u64 (n : Int)] w fun r w' => r = .returned (.bool (decide (2 * n * c ≤ d))) ∧ w' = w := by
  obtain ⟨D, hD⟩ : ∃ D, D = d := ⟨_, rfl⟩
  have HD0 := Lib.hid hD
  have e2 : 2 * (n : Int) = ((2 * n : Nat) : Int) := rfl
  obtain ⟨N, hN⟩ : ∃ N, N = 2 * n := ⟨_, rfl⟩
  have hNl : N ≤ 2002 := by omega
  rw [← hN] at e2 ⊢
  rw [← hD]
  clear hD hN hn
  go_enter Try.func17, Try.ntmps17
  go_wp2_with fail
  go_loopw [0, 7] (fun v0 v7 u => ∃ (i x p : Nat), i ≤ N ∧ p = i * c ∧ x + p = D ∧ x < 18446744073709551616 ∧ v0 = .int .u64 (x : Int) ∧ v7 = .int .u64 (i : Int) ∧ u = w) (fun _ v7 _ => N - (intOf v7).toNat)
  case atStart => exact ⟨0, D, 0, Nat.zero_le _, by omega, rfl, by rw [HD0.out]; exact hd, rfl, rfl, rfl⟩
  case round =>
    obtain ⟨i, x, p, hi, hp, hx, hxl, rfl, rfl, rfl⟩ := hrel
    have HP := Lib.hid hp
    have HX := Lib.hid hx
    clear hp hx
    by_cases hin : i < N
    · by_cases hcx : x < c
      · go_wp2_with fail
        go_ret
        refine ⟨congrArg (fun b => Ending.returned (.bool b)) (decide_eq_false ?_).symm, rfl⟩
        have h1 := Nat.mul_le_mul_right c (show i + 1 ≤ N by omega)
        rw [Nat.add_mul, Nat.one_mul, ← HP.out] at h1
        have := HX.out
        omega
      · have hle : c ≤ x := by omega
        go_wp2_with fail
        exact ⟨⟨i + 1, x - c, p + c, by omega, by rw [HP.out, Nat.add_mul, Nat.one_mul], by have := HX.out; omega, by omega, by go_num, rfl, trivial⟩, by simp [intOf]; omega⟩
    · obtain rfl : i = N := by omega
      go_wp2_with fail
      go_ret
      refine ⟨congrArg (fun b => Ending.returned (.bool b)) (decide_eq_true ?_).symm, rfl⟩
      rw [← HP.out]
      have := HX.out
      omega
set_option maxHeartbeats 4000000 in
theorem weakMeans_any (d m c l a e t : Nat) (hd : d < 18446744073709551616) (hm : m < 18446744073709551616) (hc : c < 18446744073709551616) (hl : l < 18446744073709551616) (ha : a < 18446744073709551616) (he : e < 18446744073709551616) (ht : t < 18446744073709551616) (w : World) : Calls Try.prog 5 #[.int .u64 (d : Int), .int .u64 (m : Int), .int .u64 (c : Int), .int .u64 (l : Int), .int .u64 (a : Int), .int .u64 (e : Int), .int .u64 (t : Int)] w fun r w' => r = .returned (.bool true) ∧ Below w.heap.size w w' := by
  obtain ⟨M, hM⟩ : ∃ M : Nat, M = if d < m then m else d := ⟨_, rfl⟩
  have eM : (if d < m then (m : Int) else (d : Int)) = (M : Int) := by rw [hM]; split <;> rfl
  obtain ⟨T, hT⟩ : ∃ M : Nat, M = if e < t then t else e := ⟨_, rfl⟩
  have eT : (if e < t then (t : Int) else (e : Int)) = (T : Int) := by rw [hT]; split <;> rfl
  obtain ⟨L, hL⟩ : ∃ M : Nat, M = if l < c then l else c := ⟨_, rfl⟩
  have eL : (if l < c then (l : Int) else (c : Int)) = (L : Int) := by rw [hL]; split <;> rfl
  have HMd := Lib.hid (show d ≤ M by rw [hM]; split <;> omega)
  have HMl := Lib.hid (show M < 18446744073709551616 by rw [hM]; split <;> omega)
  have HTe := Lib.hid (show e ≤ T by rw [hT]; split <;> omega)
  have HTl := Lib.hid (show T < 18446744073709551616 by rw [hT]; split <;> omega)
  have HLc := Lib.hid (show L ≤ c by rw [hL]; split <;> omega)
  clear hM hT hL
  rcases Nat.eq_zero_or_pos c with rfl | h0
  · have L0 : L = 0 := by have := HLc.out; omega
    subst L0
    have W1 := Lib.hid (window_no d)
    have W2 := Lib.hid (window_no M)
    clear eT HTe HTl HMd HMl HLc
    go_enter Try.func5, Try.ntmps5
    go_wp2_with fail
    refine (known_c _).mono ?_
    rintro r w1 ⟨rfl, hb⟩
    go_wp2_with fail
    refine (W1.out _).mono ?_
    rintro r w2 ⟨rfl, rfl⟩
    go_wp2_with fail
    refine (W2.out _).mono ?_
    rintro r w3 ⟨rfl, rfl⟩
    go_wp2_with fail
    refine (W1.out _).mono ?_
    rintro r w3 ⟨rfl, rfl⟩
    go_wp2_with fail
    refine (num_c _ _).mono ?_
    rintro r w3 ⟨rfl, rfl⟩
    go_wp2_with fail
    refine (num_c _ _).mono ?_
    rintro r w3 ⟨rfl, rfl⟩
    go_wp2_with fail
    go_ret
    exact ⟨rfl, hb⟩
  · obtain ⟨W, hW⟩ : ∃ W, W = d / (2 * c) := ⟨_, rfl⟩
    obtain ⟨X, hX⟩ : ∃ X, X = M / (2 * c) := ⟨_, rfl⟩
    have W1 := Lib.hid (window_c d c hd hc h0)
    have W2 := Lib.hid (window_c M c HMl.out hc h0)
    rw [← hW] at W1
    rw [← hX] at W2
    have hWl : W < 9223372036854775808 := by rw [hW, ← Nat.div_div_eq_div_mul]; exact Nat.lt_of_le_of_lt (Nat.div_le_self _ _) (by omega)
    have hXl : X < 9223372036854775808 := by rw [hX, ← Nat.div_div_eq_div_mul]; exact Nat.lt_of_le_of_lt (Nat.div_le_self _ _) (by have := HMl.out; omega)
    have hWX : W ≤ X := by rw [hW, hX]; exact Nat.div_le_div_right HMd.out
    have t1 : 2 * W * c ≤ d := by
      rw [hW, Nat.mul_assoc, Nat.mul_comm _ c, ← Nat.mul_assoc]
      exact Nat.mul_div_le d (2 * c)
    have t2 : ¬ 2 * (W + 1) * c ≤ d := by
      rw [hW, Nat.mul_assoc, Nat.mul_comm _ c, ← Nat.mul_assoc]
      exact Nat.not_le.2 (Nat.lt_mul_div_succ d (by omega))
    have TA := Lib.hid (fun (h : W ≤ 1000) => times_c d c W hd hc (by omega))
    have TB := Lib.hid (fun (h : W ≤ 1000) => times_c d c (W + 1) hd hc (by omega))
    rw [decide_eq_true t1] at TA
    rw [decide_eq_false t2] at TB
    rw [show ((W + 1 : Nat) : Int) = (W : Int) + 1 from rfl] at TB
    have S1 := Lib.hid (stale_c a W ha (by omega) e he)
    have S2 := Lib.hid (stale_c a W ha (by omega) T HTl.out)
    have S3 := Lib.hid (stale_c a X ha (by omega) e he)
    have HQ := Lib.hid (show endN a W < e → endN a W < T from fun h => Nat.lt_of_lt_of_le h HTe.out)
    have HR := Lib.hid (show endN a X < e → endN a W < e from fun h => Nat.lt_of_le_of_lt (by unfold endN; split <;> split <;> omega) h)
    have HY := Lib.hid (show 0 < L → W ≤ d / (2 * L) from fun h => by rw [hW]; exact Nat.div_le_div_left (by have := HLc.out; omega) (by omega))
    have x1 : ¬ X < W := by omega
    have d1 : ((c : Int) == 0) = false := by rw [beq_eq_false_iff_ne]; omega
    have hne : ¬ (c : Int) = 0 := by omega
    clear hW hX t1 t2 hWX HMd HMl HTe HTl
    rcases Nat.eq_zero_or_pos L with l0 | l0
    · have W3 : Hid (∀ w : World, Calls Try.prog 8 #[.int .u64 (d : Int), .int .u64 (L : Int)] w fun e w' => e = .returned (.tuple #[.int .u64 0, .int .i64 2]) ∧ w' = w) := Lib.hid (by rw [l0]; exact window_no d)
      clear l0 HLc HY
      by_cases cP : endN a W < e
      · rw [decide_eq_true cP] at S1
        rw [decide_eq_true (HQ.out cP)] at S2
        by_cases cR : endN a X < e
        · rw [decide_eq_true cR] at S3
          clear cP cR
          by_cases hbig : W ≤ 1000
          · have p1 : ¬ 1000 < W := by omega
            go_enter Try.func5, Try.ntmps5
            go_wp2_with fail
            refine (known_c _).mono ?_
            rintro r w1 ⟨rfl, b1⟩
            go_wp2_with fail
            refine (W1.out _).mono ?_
            rintro r w0 ⟨rfl, rfl⟩
            go_wp2_with fail
            refine (W2.out _).mono ?_
            rintro r w0 ⟨rfl, rfl⟩
            go_wp2_with fail
            refine (W3.out _).mono ?_
            rintro r w0 ⟨rfl, rfl⟩
            go_wp2_with fail
            refine (num_c _ _).mono ?_
            rintro r w0 ⟨rfl, rfl⟩
            go_wp2_with fail
            refine (num_c _ _).mono ?_
            rintro r w0 ⟨rfl, rfl⟩
            go_wp2_with fail
            refine (num_c _ _).mono ?_
            rintro r w0 ⟨rfl, rfl⟩
            go_wp2_with fail
            refine (S1.out _).mono ?_
            rintro r w2 ⟨rfl, b2⟩
            go_wp2_with fail
            refine (S2.out _).mono ?_
            rintro r w3 ⟨rfl, b3⟩
            go_wp2_with fail
            refine (S3.out _).mono ?_
            rintro r w4 ⟨rfl, b4⟩
            go_wp2_with fail
            refine (S1.out _).mono ?_
            rintro r w5 ⟨rfl, b5⟩
            go_wp2_with fail
            refine (TA.out hbig _).mono ?_
            rintro r w0 ⟨rfl, rfl⟩
            go_wp2_with fail
            refine (TB.out hbig _).mono ?_
            rintro r w0 ⟨rfl, rfl⟩
            go_wp2_with fail
            have z1 := b1
            have z2 := z1.trans (b2.mono z1.size)
            have z3 := z2.trans (b3.mono z2.size)
            have z4 := z3.trans (b4.mono z3.size)
            have z5 := z4.trans (b5.mono z4.size)
            go_ret
            exact ⟨rfl, z5⟩
          · have p1 : 1000 < W := by omega
            go_enter Try.func5, Try.ntmps5
            go_wp2_with fail
            refine (known_c _).mono ?_
            rintro r w1 ⟨rfl, b1⟩
            go_wp2_with fail
            refine (W1.out _).mono ?_
            rintro r w0 ⟨rfl, rfl⟩
            go_wp2_with fail
            refine (W2.out _).mono ?_
            rintro r w0 ⟨rfl, rfl⟩
            go_wp2_with fail
            refine (W3.out _).mono ?_
            rintro r w0 ⟨rfl, rfl⟩
            go_wp2_with fail
            refine (num_c _ _).mono ?_
            rintro r w0 ⟨rfl, rfl⟩
            go_wp2_with fail
            refine (num_c _ _).mono ?_
            rintro r w0 ⟨rfl, rfl⟩
            go_wp2_with fail
            refine (num_c _ _).mono ?_
            rintro r w0 ⟨rfl, rfl⟩
            go_wp2_with fail
            refine (S1.out _).mono ?_
            rintro r w2 ⟨rfl, b2⟩
            go_wp2_with fail
            refine (S2.out _).mono ?_
            rintro r w3 ⟨rfl, b3⟩
            go_wp2_with fail
            refine (S3.out _).mono ?_
            rintro r w4 ⟨rfl, b4⟩
            go_wp2_with fail
            refine (S1.out _).mono ?_
            rintro r w5 ⟨rfl, b5⟩
            go_wp2_with fail
            have z1 := b1
            have z2 := z1.trans (b2.mono z1.size)
            have z3 := z2.trans (b3.mono z2.size)
            have z4 := z3.trans (b4.mono z3.size)
            have z5 := z4.trans (b5.mono z4.size)
            go_ret
            exact ⟨rfl, z5⟩
        · rw [decide_eq_false cR] at S3
          clear cP cR
          by_cases hbig : W ≤ 1000
          · have p1 : ¬ 1000 < W := by omega
            go_enter Try.func5, Try.ntmps5
            go_wp2_with fail
            refine (known_c _).mono ?_
            rintro r w1 ⟨rfl, b1⟩
            go_wp2_with fail
            refine (W1.out _).mono ?_
            rintro r w0 ⟨rfl, rfl⟩
            go_wp2_with fail
            refine (W2.out _).mono ?_
            rintro r w0 ⟨rfl, rfl⟩
            go_wp2_with fail
            refine (W3.out _).mono ?_
            rintro r w0 ⟨rfl, rfl⟩
            go_wp2_with fail
            refine (num_c _ _).mono ?_
            rintro r w0 ⟨rfl, rfl⟩
            go_wp2_with fail
            refine (num_c _ _).mono ?_
            rintro r w0 ⟨rfl, rfl⟩
            go_wp2_with fail
            refine (num_c _ _).mono ?_
            rintro r w0 ⟨rfl, rfl⟩
            go_wp2_with fail
            refine (S1.out _).mono ?_
            rintro r w2 ⟨rfl, b2⟩
            go_wp2_with fail
            refine (S2.out _).mono ?_
            rintro r w3 ⟨rfl, b3⟩
            go_wp2_with fail
            refine (S3.out _).mono ?_
            rintro r w4 ⟨rfl, b4⟩
            go_wp2_with fail
            refine (TA.out hbig _).mono ?_
            rintro r w0 ⟨rfl, rfl⟩
            go_wp2_with fail
            refine (TB.out hbig _).mono ?_
            rintro r w0 ⟨rfl, rfl⟩
            go_wp2_with fail
            have z1 := b1
            have z2 := z1.trans (b2.mono z1.size)
            have z3 := z2.trans (b3.mono z2.size)
            have z4 := z3.trans (b4.mono z3.size)
            go_ret
            exact ⟨rfl, z4⟩
          · have p1 : 1000 < W := by omega
            go_enter Try.func5, Try.ntmps5
            go_wp2_with fail
            refine (known_c _).mono ?_
            rintro r w1 ⟨rfl, b1⟩
            go_wp2_with fail
            refine (W1.out _).mono ?_
            rintro r w0 ⟨rfl, rfl⟩
            go_wp2_with fail
            refine (W2.out _).mono ?_
            rintro r w0 ⟨rfl, rfl⟩
            go_wp2_with fail
            refine (W3.out _).mono ?_
            rintro r w0 ⟨rfl, rfl⟩
            go_wp2_with fail
            refine (num_c _ _).mono ?_
            rintro r w0 ⟨rfl, rfl⟩
            go_wp2_with fail
            refine (num_c _ _).mono ?_
            rintro r w0 ⟨rfl, rfl⟩
            go_wp2_with fail
            refine (num_c _ _).mono ?_
            rintro r w0 ⟨rfl, rfl⟩
            go_wp2_with fail
            refine (S1.out _).mono ?_
            rintro r w2 ⟨rfl, b2⟩
            go_wp2_with fail
            refine (S2.out _).mono ?_
            rintro r w3 ⟨rfl, b3⟩
            go_wp2_with fail
            refine (S3.out _).mono ?_
            rintro r w4 ⟨rfl, b4⟩
            go_wp2_with fail
            have z1 := b1
            have z2 := z1.trans (b2.mono z1.size)
            have z3 := z2.trans (b3.mono z2.size)
            have z4 := z3.trans (b4.mono z3.size)
            go_ret
            exact ⟨rfl, z4⟩
      · rw [decide_eq_false cP] at S1
        rw [decide_eq_false (fun h => cP (HR.out h))] at S3
        clear cP
        by_cases hbig : W ≤ 1000
        · have p1 : ¬ 1000 < W := by omega
          go_enter Try.func5, Try.ntmps5
          go_wp2_with fail
          refine (known_c _).mono ?_
          rintro r w1 ⟨rfl, b1⟩
          go_wp2_with fail
          refine (W1.out _).mono ?_
          rintro r w0 ⟨rfl, rfl⟩
          go_wp2_with fail
          refine (W2.out _).mono ?_
          rintro r w0 ⟨rfl, rfl⟩
          go_wp2_with fail
          refine (W3.out _).mono ?_
          rintro r w0 ⟨rfl, rfl⟩
          go_wp2_with fail
          refine (num_c _ _).mono ?_
          rintro r w0 ⟨rfl, rfl⟩
          go_wp2_with fail
          refine (num_c _ _).mono ?_
          rintro r w0 ⟨rfl, rfl⟩
          go_wp2_with fail
          refine (num_c _ _).mono ?_
          rintro r w0 ⟨rfl, rfl⟩
          go_wp2_with fail
          refine (S1.out _).mono ?_
          rintro r w2 ⟨rfl, b2⟩
          go_wp2_with fail
          refine (S3.out _).mono ?_
          rintro r w4 ⟨rfl, b4⟩
          go_wp2_with fail
          refine (TA.out hbig _).mono ?_
          rintro r w0 ⟨rfl, rfl⟩
          go_wp2_with fail
          refine (TB.out hbig _).mono ?_
          rintro r w0 ⟨rfl, rfl⟩
          go_wp2_with fail
          have z1 := b1
          have z2 := z1.trans (b2.mono z1.size)
          have z3 := z2.trans (b4.mono z2.size)
          go_ret
          exact ⟨rfl, z3⟩
        · have p1 : 1000 < W := by omega
          go_enter Try.func5, Try.ntmps5
          go_wp2_with fail
          refine (known_c _).mono ?_
          rintro r w1 ⟨rfl, b1⟩
          go_wp2_with fail
          refine (W1.out _).mono ?_
          rintro r w0 ⟨rfl, rfl⟩
          go_wp2_with fail
          refine (W2.out _).mono ?_
          rintro r w0 ⟨rfl, rfl⟩
          go_wp2_with fail
          refine (W3.out _).mono ?_
          rintro r w0 ⟨rfl, rfl⟩
          go_wp2_with fail
          refine (num_c _ _).mono ?_
          rintro r w0 ⟨rfl, rfl⟩
          go_wp2_with fail
          refine (num_c _ _).mono ?_
          rintro r w0 ⟨rfl, rfl⟩
          go_wp2_with fail
          refine (num_c _ _).mono ?_
          rintro r w0 ⟨rfl, rfl⟩
          go_wp2_with fail
          refine (S1.out _).mono ?_
          rintro r w2 ⟨rfl, b2⟩
          go_wp2_with fail
          refine (S3.out _).mono ?_
          rintro r w4 ⟨rfl, b4⟩
          go_wp2_with fail
          have z1 := b1
          have z2 := z1.trans (b2.mono z1.size)
          have z3 := z2.trans (b4.mono z2.size)
          go_ret
          exact ⟨rfl, z3⟩
    · have W3 := Lib.hid (window_c d L hd (by have := HLc.out; omega) l0)
      obtain ⟨Y, hY⟩ : ∃ Y, Y = d / (2 * L) := ⟨_, rfl⟩
      rw [← hY] at W3
      have y1 : ¬ Y < W := by rw [hY]; exact Nat.not_lt.2 (HY.out l0)
      clear hY HY HLc l0
      by_cases cP : endN a W < e
      · rw [decide_eq_true cP] at S1
        rw [decide_eq_true (HQ.out cP)] at S2
        by_cases cR : endN a X < e
        · rw [decide_eq_true cR] at S3
          clear cP cR
          by_cases hbig : W ≤ 1000
          · have p1 : ¬ 1000 < W := by omega
            go_enter Try.func5, Try.ntmps5
            go_wp2_with fail
            refine (known_c _).mono ?_
            rintro r w1 ⟨rfl, b1⟩
            go_wp2_with fail
            refine (W1.out _).mono ?_
            rintro r w0 ⟨rfl, rfl⟩
            go_wp2_with fail
            refine (W2.out _).mono ?_
            rintro r w0 ⟨rfl, rfl⟩
            go_wp2_with fail
            refine (W3.out _).mono ?_
            rintro r w0 ⟨rfl, rfl⟩
            go_wp2_with fail
            refine (num_c _ _).mono ?_
            rintro r w0 ⟨rfl, rfl⟩
            go_wp2_with fail
            refine (num_c _ _).mono ?_
            rintro r w0 ⟨rfl, rfl⟩
            go_wp2_with fail
            refine (num_c _ _).mono ?_
            rintro r w0 ⟨rfl, rfl⟩
            go_wp2_with fail
            refine (S1.out _).mono ?_
            rintro r w2 ⟨rfl, b2⟩
            go_wp2_with fail
            refine (S2.out _).mono ?_
            rintro r w3 ⟨rfl, b3⟩
            go_wp2_with fail
            refine (S3.out _).mono ?_
            rintro r w4 ⟨rfl, b4⟩
            go_wp2_with fail
            refine (S1.out _).mono ?_
            rintro r w5 ⟨rfl, b5⟩
            go_wp2_with fail
            refine (TA.out hbig _).mono ?_
            rintro r w0 ⟨rfl, rfl⟩
            go_wp2_with fail
            refine (TB.out hbig _).mono ?_
            rintro r w0 ⟨rfl, rfl⟩
            go_wp2_with fail
            have z1 := b1
            have z2 := z1.trans (b2.mono z1.size)
            have z3 := z2.trans (b3.mono z2.size)
            have z4 := z3.trans (b4.mono z3.size)
            have z5 := z4.trans (b5.mono z4.size)
            go_ret
            exact ⟨rfl, z5⟩
          · have p1 : 1000 < W := by omega
            go_enter Try.func5, Try.ntmps5
            go_wp2_with fail
            refine (known_c _).mono ?_
            rintro r w1 ⟨rfl, b1⟩
            go_wp2_with fail
            refine (W1.out _).mono ?_
            rintro r w0 ⟨rfl, rfl⟩
            go_wp2_with fail
            refine (W2.out _).mono ?_
            rintro r w0 ⟨rfl, rfl⟩
            go_wp2_with fail
            refine (W3.out _).mono ?_
            rintro r w0 ⟨rfl, rfl⟩
            go_wp2_with fail
            refine (num_c _ _).mono ?_
            rintro r w0 ⟨rfl, rfl⟩
            go_wp2_with fail
            refine (num_c _ _).mono ?_
            rintro r w0 ⟨rfl, rfl⟩
            go_wp2_with fail
            refine (num_c _ _).mono ?_
            rintro r w0 ⟨rfl, rfl⟩
            go_wp2_with fail
            refine (S1.out _).mono ?_
            rintro r w2 ⟨rfl, b2⟩
            go_wp2_with fail
            refine (S2.out _).mono ?_
            rintro r w3 ⟨rfl, b3⟩
            go_wp2_with fail
            refine (S3.out _).mono ?_
            rintro r w4 ⟨rfl, b4⟩
            go_wp2_with fail
            refine (S1.out _).mono ?_
            rintro r w5 ⟨rfl, b5⟩
            go_wp2_with fail
            have z1 := b1
            have z2 := z1.trans (b2.mono z1.size)
            have z3 := z2.trans (b3.mono z2.size)
            have z4 := z3.trans (b4.mono z3.size)
            have z5 := z4.trans (b5.mono z4.size)
            go_ret
            exact ⟨rfl, z5⟩
        · rw [decide_eq_false cR] at S3
          clear cP cR
          by_cases hbig : W ≤ 1000
          · have p1 : ¬ 1000 < W := by omega
            go_enter Try.func5, Try.ntmps5
            go_wp2_with fail
            refine (known_c _).mono ?_
            rintro r w1 ⟨rfl, b1⟩
            go_wp2_with fail
            refine (W1.out _).mono ?_
            rintro r w0 ⟨rfl, rfl⟩
            go_wp2_with fail
            refine (W2.out _).mono ?_
            rintro r w0 ⟨rfl, rfl⟩
            go_wp2_with fail
            refine (W3.out _).mono ?_
            rintro r w0 ⟨rfl, rfl⟩
            go_wp2_with fail
            refine (num_c _ _).mono ?_
            rintro r w0 ⟨rfl, rfl⟩
            go_wp2_with fail
            refine (num_c _ _).mono ?_
            rintro r w0 ⟨rfl, rfl⟩
            go_wp2_with fail
            refine (num_c _ _).mono ?_
            rintro r w0 ⟨rfl, rfl⟩
            go_wp2_with fail
            refine (S1.out _).mono ?_
            rintro r w2 ⟨rfl, b2⟩
            go_wp2_with fail
            refine (S2.out _).mono ?_
            rintro r w3 ⟨rfl, b3⟩
            go_wp2_with fail
            refine (S3.out _).mono ?_
            rintro r w4 ⟨rfl, b4⟩
            go_wp2_with fail
            refine (TA.out hbig _).mono ?_
            rintro r w0 ⟨rfl, rfl⟩
            go_wp2_with fail
            refine (TB.out hbig _).mono ?_
            rintro r w0 ⟨rfl, rfl⟩
            go_wp2_with fail
            have z1 := b1
            have z2 := z1.trans (b2.mono z1.size)
            have z3 := z2.trans (b3.mono z2.size)
            have z4 := z3.trans (b4.mono z3.size)
            go_ret
            exact ⟨rfl, z4⟩
          · have p1 : 1000 < W := by omega
            go_enter Try.func5, Try.ntmps5
            go_wp2_with fail
            refine (known_c _).mono ?_
            rintro r w1 ⟨rfl, b1⟩
            go_wp2_with fail
            refine (W1.out _).mono ?_
            rintro r w0 ⟨rfl, rfl⟩
            go_wp2_with fail
            refine (W2.out _).mono ?_
            rintro r w0 ⟨rfl, rfl⟩
            go_wp2_with fail
            refine (W3.out _).mono ?_
            rintro r w0 ⟨rfl, rfl⟩
            go_wp2_with fail
            refine (num_c _ _).mono ?_
            rintro r w0 ⟨rfl, rfl⟩
            go_wp2_with fail
            refine (num_c _ _).mono ?_
            rintro r w0 ⟨rfl, rfl⟩
            go_wp2_with fail
            refine (num_c _ _).mono ?_
            rintro r w0 ⟨rfl, rfl⟩
            go_wp2_with fail
            refine (S1.out _).mono ?_
            rintro r w2 ⟨rfl, b2⟩
            go_wp2_with fail
            refine (S2.out _).mono ?_
            rintro r w3 ⟨rfl, b3⟩
            go_wp2_with fail
            refine (S3.out _).mono ?_
            rintro r w4 ⟨rfl, b4⟩
            go_wp2_with fail
            have z1 := b1
            have z2 := z1.trans (b2.mono z1.size)
            have z3 := z2.trans (b3.mono z2.size)
            have z4 := z3.trans (b4.mono z3.size)
            go_ret
            exact ⟨rfl, z4⟩
      · rw [decide_eq_false cP] at S1
        rw [decide_eq_false (fun h => cP (HR.out h))] at S3
        clear cP
        by_cases hbig : W ≤ 1000
        · have p1 : ¬ 1000 < W := by omega
          go_enter Try.func5, Try.ntmps5
          go_wp2_with fail
          refine (known_c _).mono ?_
          rintro r w1 ⟨rfl, b1⟩
          go_wp2_with fail
          refine (W1.out _).mono ?_
          rintro r w0 ⟨rfl, rfl⟩
          go_wp2_with fail
          refine (W2.out _).mono ?_
          rintro r w0 ⟨rfl, rfl⟩
          go_wp2_with fail
          refine (W3.out _).mono ?_
          rintro r w0 ⟨rfl, rfl⟩
          go_wp2_with fail
          refine (num_c _ _).mono ?_
          rintro r w0 ⟨rfl, rfl⟩
          go_wp2_with fail
          refine (num_c _ _).mono ?_
          rintro r w0 ⟨rfl, rfl⟩
          go_wp2_with fail
          refine (num_c _ _).mono ?_
          rintro r w0 ⟨rfl, rfl⟩
          go_wp2_with fail
          refine (S1.out _).mono ?_
          rintro r w2 ⟨rfl, b2⟩
          go_wp2_with fail
          refine (S3.out _).mono ?_
          rintro r w4 ⟨rfl, b4⟩
          go_wp2_with fail
          refine (TA.out hbig _).mono ?_
          rintro r w0 ⟨rfl, rfl⟩
          go_wp2_with fail
          refine (TB.out hbig _).mono ?_
          rintro r w0 ⟨rfl, rfl⟩
          go_wp2_with fail
          have z1 := b1
          have z2 := z1.trans (b2.mono z1.size)
          have z3 := z2.trans (b4.mono z2.size)
          go_ret
          exact ⟨rfl, z3⟩
        · have p1 : 1000 < W := by omega
          go_enter Try.func5, Try.ntmps5
          go_wp2_with fail
          refine (known_c _).mono ?_
          rintro r w1 ⟨rfl, b1⟩
          go_wp2_with fail
          refine (W1.out _).mono ?_
          rintro r w0 ⟨rfl, rfl⟩
          go_wp2_with fail
          refine (W2.out _).mono ?_
          rintro r w0 ⟨rfl, rfl⟩
          go_wp2_with fail
          refine (W3.out _).mono ?_
          rintro r w0 ⟨rfl, rfl⟩
          go_wp2_with fail
          refine (num_c _ _).mono ?_
          rintro r w0 ⟨rfl, rfl⟩
          go_wp2_with fail
          refine (num_c _ _).mono ?_
          rintro r w0 ⟨rfl, rfl⟩
          go_wp2_with fail
          refine (num_c _ _).mono ?_
          rintro r w0 ⟨rfl, rfl⟩
          go_wp2_with fail
          refine (S1.out _).mono ?_
          rintro r w2 ⟨rfl, b2⟩
          go_wp2_with fail
          refine (S3.out _).mono ?_
          rintro r w4 ⟨rfl, b4⟩
          go_wp2_with fail
          have z1 := b1
          have z2 := z1.trans (b2.mono z1.size)
          have z3 := z2.trans (b4.mono z2.size)
          go_ret
          exact ⟨rfl, z3⟩
end Go.Proofs.Ytfjcfpippbnhhaa
