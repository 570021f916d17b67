/- An epoch is within, stale, or ahead, and what is left goes down: every three numbers. -/
import Derived.Test.YtfjcfpippbnhhaaWkKit
namespace Go.Proofs.Ytfjcfpippbnhhaa
open Go.ChangeShapes Go.WideShapes Go.ChangeAt Go.RowKit
set_option linter.unusedVariables false
set_option maxRecDepth 100000

theorem endN_ge (a n : Nat) (ha : a < 18446744073709551616) : a ≤ endN a n := by unfold endN; split <;> omega
set_option maxHeartbeats 8000000 in
theorem weakEnds_any (a n e : Nat) (ha : a < 18446744073709551616) (hn : n < 18446744073709551616) (he : e < 18446744073709551616) (w : World) : Calls Try.prog 6 #[.int .u64 (a : Int), .int .u64 (n : Int), .int .u64 (e : Int)] w fun r w' => r = .returned (.bool true) ∧ Below w.heap.size w w' := by
  have EC := Lib.hid (end_c a n ha hn)
  have SC := Lib.hid (stale_c a n ha hn e he)
  have SE := Lib.hid (stale_c a n ha hn (endN a n) (endN_lt a n))
  have WC := Lib.hid (within_c a n ha hn e he)
  have LC := Lib.hid (left_c a n ha hn e he)
  have LN : Hid (e + 1 < 18446744073709551616 → _) := Lib.hid (fun h => left_c a n ha hn (e + 1) h)
  have hE := endN_lt a n
  have hA := endN_ge a n ha
  obtain ⟨E, eE⟩ : ∃ E, E = endN a n := ⟨_, rfl⟩
  rw [← eE] at EC SC SE WC LC LN hE hA
  clear eE ha hn
  by_cases c2 : a ≤ e
  · rcases Nat.lt_trichotomy e E with c1 | c1 | c1
    · have g0 : decide (E < e) = false := by simp; omega
      have g1 : decide (a ≤ e ∧ e ≤ E) = true := by simp; omega
      have g3 : decide (E < E) = false := by simp
      rw [g0] at SC
      rw [g1] at WC
      rw [g3] at SE
      have LM := Lib.hid (LN.out (by omega))
      clear LN
      obtain ⟨m, em⟩ : ∃ m, m = E - e := ⟨_, rfl⟩
      have g2 : ((E - (e + 1) : Nat) : Int) = (m : Int) - 1 := by omega
      have g4 : ((e + 1 : Nat) : Int) = (e : Int) + 1 := by omega
      rw [g2, g4] at LM
      rw [← em] at LC
      have pm : 0 < m := by omega
      have hm : m < 18446744073709551616 := by omega
      have hme : ¬ (m : Int) = 0 := by omega
      have hme2 : ((m : Int) == 0) = false := by rw [beq_eq_false_iff_ne]; omega
      have he1 : e + 1 < 18446744073709551616 := by omega
      clear em g2 g4
      have p0 : e < E := by omega
      have q0 : decide (e < E) = true := by simp; omega
      have p1 : ¬ E < e := by omega
      have q1 : decide (E < e) = false := by simp; omega
      have p2 : e ≤ E := by omega
      have q2 : decide (e ≤ E) = true := by simp; omega
      have p3 : ¬ E ≤ e := by omega
      have q3 : decide (E ≤ e) = false := by simp; omega
      have p4 : a ≤ e := by omega
      have q4 : decide (a ≤ e) = true := by simp; omega
      have p5 : ¬ e < a := by omega
      have q5 : decide (e < a) = false := by simp; omega
      have p6 : ¬ E < a := by omega
      have q6 : decide (E < a) = false := by simp; omega
      have p7 : a ≤ E := by omega
      have q7 : decide (a ≤ E) = true := by simp; omega
      clear g0 g1 g3 c1 hA
      go_enter Try.func6, Try.ntmps6
      go_wp2_with fail
      refine (WC.out _).mono ?_
      rintro r w1 ⟨rfl, hb1⟩
      go_wp2_with fail
      refine (SC.out _).mono ?_
      rintro r w2 ⟨rfl, hb2⟩
      go_wp2_with fail
      refine (LC.out _).mono ?_
      rintro r w3 ⟨rfl, hb3⟩
      go_wp2_with fail
      refine (EC.out _).mono ?_
      rintro r w0 ⟨rfl, rfl⟩
      go_wp2_with fail
      refine (SE.out _).mono ?_
      rintro r w4 ⟨rfl, hb4⟩
      go_wp2_with fail
      refine (LM.out _).mono ?_
      rintro r w5 ⟨rfl, hb5⟩
      go_wp2_with fail
      refine (known_c _).mono ?_
      rintro r w6 ⟨rfl, hb6⟩
      go_wp2_with fail
      have z1 := hb1
      have z2 := z1.trans (hb2.mono z1.size)
      have z3 := z2.trans (hb3.mono z2.size)
      have z4 := z3.trans (hb4.mono z3.size)
      have z5 := z4.trans (hb5.mono z4.size)
      have z6 := z5.trans (hb6.mono z5.size)
      go_ret
      exact ⟨rfl, z6⟩
    · have g0 : decide (E < e) = false := by simp; omega
      have g1 : decide (a ≤ e ∧ e ≤ E) = true := by simp; omega
      have g3 : decide (E < E) = false := by simp
      rw [g0] at SC
      rw [g1] at WC
      rw [g3] at SE
      clear LN
      have g2 : E - e = 0 := by omega
      rw [g2] at LC
      clear g2
      have p0 : ¬ e < E := by omega
      have q0 : decide (e < E) = false := by simp; omega
      have p1 : ¬ E < e := by omega
      have q1 : decide (E < e) = false := by simp; omega
      have p2 : e ≤ E := by omega
      have q2 : decide (e ≤ E) = true := by simp; omega
      have p3 : E ≤ e := by omega
      have q3 : decide (E ≤ e) = true := by simp; omega
      have p4 : a ≤ e := by omega
      have q4 : decide (a ≤ e) = true := by simp; omega
      have p5 : ¬ e < a := by omega
      have q5 : decide (e < a) = false := by simp; omega
      have p6 : ¬ E < a := by omega
      have q6 : decide (E < a) = false := by simp; omega
      have p7 : a ≤ E := by omega
      have q7 : decide (a ≤ E) = true := by simp; omega
      clear g0 g1 g3 c1 hA
      go_enter Try.func6, Try.ntmps6
      go_wp2_with fail
      refine (WC.out _).mono ?_
      rintro r w1 ⟨rfl, hb1⟩
      go_wp2_with fail
      refine (SC.out _).mono ?_
      rintro r w2 ⟨rfl, hb2⟩
      go_wp2_with fail
      refine (LC.out _).mono ?_
      rintro r w3 ⟨rfl, hb3⟩
      go_wp2_with fail
      refine (EC.out _).mono ?_
      rintro r w0 ⟨rfl, rfl⟩
      go_wp2_with fail
      refine (SE.out _).mono ?_
      rintro r w4 ⟨rfl, hb4⟩
      go_wp2_with fail
      refine (known_c _).mono ?_
      rintro r w6 ⟨rfl, hb6⟩
      go_wp2_with fail
      have z1 := hb1
      have z2 := z1.trans (hb2.mono z1.size)
      have z3 := z2.trans (hb3.mono z2.size)
      have z4 := z3.trans (hb4.mono z3.size)
      have z5 := z4.trans (hb6.mono z4.size)
      go_ret
      exact ⟨rfl, z5⟩
    · have g0 : decide (E < e) = true := by simp; omega
      have g1 : decide (a ≤ e ∧ e ≤ E) = false := by simp; omega
      have g3 : decide (E < E) = false := by simp
      rw [g0] at SC
      rw [g1] at WC
      rw [g3] at SE
      clear LN
      have g2 : E - e = 0 := by omega
      rw [g2] at LC
      clear g2
      have p0 : ¬ e < E := by omega
      have q0 : decide (e < E) = false := by simp; omega
      have p1 : E < e := by omega
      have q1 : decide (E < e) = true := by simp; omega
      have p2 : ¬ e ≤ E := by omega
      have q2 : decide (e ≤ E) = false := by simp; omega
      have p3 : E ≤ e := by omega
      have q3 : decide (E ≤ e) = true := by simp; omega
      have p4 : a ≤ e := by omega
      have q4 : decide (a ≤ e) = true := by simp; omega
      have p5 : ¬ e < a := by omega
      have q5 : decide (e < a) = false := by simp; omega
      have p6 : ¬ E < a := by omega
      have q6 : decide (E < a) = false := by simp; omega
      have p7 : a ≤ E := by omega
      have q7 : decide (a ≤ E) = true := by simp; omega
      clear g0 g1 g3 c1 hA
      go_enter Try.func6, Try.ntmps6
      go_wp2_with fail
      refine (WC.out _).mono ?_
      rintro r w1 ⟨rfl, hb1⟩
      go_wp2_with fail
      refine (SC.out _).mono ?_
      rintro r w2 ⟨rfl, hb2⟩
      go_wp2_with fail
      refine (LC.out _).mono ?_
      rintro r w3 ⟨rfl, hb3⟩
      go_wp2_with fail
      refine (EC.out _).mono ?_
      rintro r w0 ⟨rfl, rfl⟩
      go_wp2_with fail
      refine (SE.out _).mono ?_
      rintro r w4 ⟨rfl, hb4⟩
      go_wp2_with fail
      refine (known_c _).mono ?_
      rintro r w6 ⟨rfl, hb6⟩
      go_wp2_with fail
      have z1 := hb1
      have z2 := z1.trans (hb2.mono z1.size)
      have z3 := z2.trans (hb3.mono z2.size)
      have z4 := z3.trans (hb4.mono z3.size)
      have z5 := z4.trans (hb6.mono z4.size)
      go_ret
      exact ⟨rfl, z5⟩
  · have c1 : e < E := by omega
    have g0 : decide (E < e) = false := by simp; omega
    have g1 : decide (a ≤ e ∧ e ≤ E) = false := by simp; omega
    have g3 : decide (E < E) = false := by simp
    rw [g0] at SC
    rw [g1] at WC
    rw [g3] at SE
    have LM := Lib.hid (LN.out (by omega))
    clear LN
    obtain ⟨m, em⟩ : ∃ m, m = E - e := ⟨_, rfl⟩
    have g2 : ((E - (e + 1) : Nat) : Int) = (m : Int) - 1 := by omega
    have g4 : ((e + 1 : Nat) : Int) = (e : Int) + 1 := by omega
    rw [g2, g4] at LM
    rw [← em] at LC
    have pm : 0 < m := by omega
    have hm : m < 18446744073709551616 := by omega
    have hme : ¬ (m : Int) = 0 := by omega
    have hme2 : ((m : Int) == 0) = false := by rw [beq_eq_false_iff_ne]; omega
    have he1 : e + 1 < 18446744073709551616 := by omega
    clear em g2 g4
    have p0 : e < E := by omega
    have q0 : decide (e < E) = true := by simp; omega
    have p1 : ¬ E < e := by omega
    have q1 : decide (E < e) = false := by simp; omega
    have p2 : e ≤ E := by omega
    have q2 : decide (e ≤ E) = true := by simp; omega
    have p3 : ¬ E ≤ e := by omega
    have q3 : decide (E ≤ e) = false := by simp; omega
    have p4 : ¬ a ≤ e := by omega
    have q4 : decide (a ≤ e) = false := by simp; omega
    have p5 : e < a := by omega
    have q5 : decide (e < a) = true := by simp; omega
    have p6 : ¬ E < a := by omega
    have q6 : decide (E < a) = false := by simp; omega
    have p7 : a ≤ E := by omega
    have q7 : decide (a ≤ E) = true := by simp; omega
    clear g0 g1 g3 c1 hA
    go_enter Try.func6, Try.ntmps6
    go_wp2_with fail
    refine (WC.out _).mono ?_
    rintro r w1 ⟨rfl, hb1⟩
    go_wp2_with fail
    refine (SC.out _).mono ?_
    rintro r w2 ⟨rfl, hb2⟩
    go_wp2_with fail
    refine (LC.out _).mono ?_
    rintro r w3 ⟨rfl, hb3⟩
    go_wp2_with fail
    refine (EC.out _).mono ?_
    rintro r w0 ⟨rfl, rfl⟩
    go_wp2_with fail
    refine (SE.out _).mono ?_
    rintro r w4 ⟨rfl, hb4⟩
    go_wp2_with fail
    refine (LM.out _).mono ?_
    rintro r w5 ⟨rfl, hb5⟩
    go_wp2_with fail
    refine (known_c _).mono ?_
    rintro r w6 ⟨rfl, hb6⟩
    go_wp2_with fail
    have z1 := hb1
    have z2 := z1.trans (hb2.mono z1.size)
    have z3 := z2.trans (hb3.mono z2.size)
    have z4 := z3.trans (hb4.mono z3.size)
    have z5 := z4.trans (hb5.mono z4.size)
    have z6 := z5.trans (hb6.mono z5.size)
    go_ret
    exact ⟨rfl, z6⟩
end Go.Proofs.Ytfjcfpippbnhhaa
