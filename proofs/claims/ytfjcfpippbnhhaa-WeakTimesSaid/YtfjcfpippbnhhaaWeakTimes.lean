/- Where an anchor's time ends, and what an epoch is to it: every three numbers. -/
import Derived.Test.YtfjcfpippbnhhaaWkKit
namespace Go.Proofs.Ytfjcfpippbnhhaa
open Go.ChangeShapes Go.WideShapes Go.ChangeAt Go.RowKit
set_option linter.unusedVariables false
set_option maxRecDepth 100000

theorem refEnd_c (a n : Nat) (ha : a < 18446744073709551616) (hn : n < 18446744073709551616) (w : World) : Calls Try.prog 12 #[.int .u64 (a : Int), .int .u64 (n : Int)] w fun e w' => e = .returned (.int .u64 ((endN a n : Nat) : Int)) ∧ w' = w := by
  by_cases hs : a + n ≤ 18446744073709551615
  · have d1 : decide ((n : Int) > 18446744073709551615 - (a : Int)) = false := by simp; omega
    have d1' : decide (18446744073709551615 - (a : Int) < (n : Int)) = false := by simp; omega
    go_enter Try.func12, Try.ntmps12
    go_wp2_with fail
    go_ret
    exact ⟨ret_int (by unfold endN; rw [if_pos hs]; rfl), rfl⟩
  · have d1 : decide ((n : Int) > 18446744073709551615 - (a : Int)) = true := by simp; omega
    have d1' : decide (18446744073709551615 - (a : Int) < (n : Int)) = true := by simp; omega
    go_enter Try.func12, Try.ntmps12
    go_wp2_with fail
    go_ret
    exact ⟨ret_int (by unfold endN; rw [if_neg hs]; rfl), rfl⟩
set_option maxHeartbeats 8000000 in
theorem weakTimes_any (a n e : Nat) (ha : a < 18446744073709551616) (hn : n < 18446744073709551616) (he : e < 18446744073709551616) (w : World) : Calls Try.prog 4 #[.int .u64 (a : Int), .int .u64 (n : Int), .int .u64 (e : Int)] w fun r w' => r = .returned (.bool true) ∧ Below w.heap.size w w' := by
  have RE := Lib.hid (refEnd_c a n ha hn)
  have EC := Lib.hid (end_c a n ha hn)
  have SC := Lib.hid (stale_c a n ha hn e he)
  have WC := Lib.hid (within_c a n ha hn e he)
  have LC := Lib.hid (left_c a n ha hn e he)
  have hE := endN_lt a n
  obtain ⟨E, eE⟩ : ∃ E, E = endN a n := ⟨_, rfl⟩
  rw [← eE] at RE EC SC WC LC hE
  clear eE ha hn
  by_cases c2 : a ≤ e
  · rcases Nat.lt_trichotomy e E with c1 | c1 | c1
    · have f0 : decide ((e : Int) < (E : Int)) = true := by simp; omega
      have f1 : decide ((e : Int) > (E : Int)) = false := by simp; omega
      have f2 : decide ((E : Int) < (e : Int)) = false := by simp; omega
      have f3 : decide ((e : Int) ≤ (E : Int)) = true := by simp; omega
      have f4 : decide ((e : Int) ≥ (E : Int)) = false := by simp; omega
      have f5 : decide ((E : Int) ≤ (e : Int)) = false := by simp; omega
      have f6 : decide ((e : Int) ≥ (a : Int)) = true := by simp; omega
      have f7 : decide ((a : Int) ≤ (e : Int)) = true := by simp; omega
      have f8 : decide ((e : Int) < (a : Int)) = false := by simp; omega
      have g0 : decide (E < e) = false := by simp; omega
      have g1 : decide (a ≤ e ∧ e ≤ E) = true := by simp; omega
      have g2 : ((E - e : Nat) : Int) = (E : Int) - (e : Int) := by omega
      rw [g2] at LC
      clear g2
      rw [g0] at SC
      rw [g1] at WC
      clear g0 g1
      have p0 : e < E := by omega
      have q0 : decide (e < E) = true := by simp; omega
      have p1 : ¬ E < e := by omega
      have q1 : decide (E < e) = false := by simp; omega
      have p2 : e ≤ E := by omega
      have q2 : decide (e ≤ E) = true := by simp; omega
      have p3 : ¬ E ≤ e := by omega
      have q3 : decide (E ≤ e) = false := by simp; omega
      have p4 : a ≤ e := by omega
      have q4 : decide (a ≤ e) = true := by simp; omega
      have p5 : ¬ e < a := by omega
      have q5 : decide (e < a) = false := by simp; omega
      clear c1 c2
      go_enter Try.func4, Try.ntmps4
      go_wp2_with fail
      refine (RE.out _).mono ?_
      rintro r w0 ⟨rfl, rfl⟩
      go_wp2_with fail
      refine (EC.out _).mono ?_
      rintro r w0 ⟨rfl, rfl⟩
      go_wp2_with fail
      refine (SC.out _).mono ?_
      rintro r w1 ⟨rfl, hb1⟩
      go_wp2_with fail
      refine (WC.out _).mono ?_
      rintro r w2 ⟨rfl, hb2⟩
      go_wp2_with fail
      refine (LC.out _).mono ?_
      rintro r w3 ⟨rfl, hb3⟩
      go_wp2_with fail
      refine (known_c _).mono ?_
      rintro r w4 ⟨rfl, hb4⟩
      go_wp2_with fail
      go_ret
      exact ⟨rfl, (hb1.trans (hb2.mono hb1.size)).trans ((hb3.mono (Nat.le_trans hb1.size hb2.size)).trans (hb4.mono (Nat.le_trans hb1.size (Nat.le_trans hb2.size hb3.size))))⟩
    · have f0 : decide ((e : Int) < (E : Int)) = false := by simp; omega
      have f1 : decide ((e : Int) > (E : Int)) = false := by simp; omega
      have f2 : decide ((E : Int) < (e : Int)) = false := by simp; omega
      have f3 : decide ((e : Int) ≤ (E : Int)) = true := by simp; omega
      have f4 : decide ((e : Int) ≥ (E : Int)) = true := by simp; omega
      have f5 : decide ((E : Int) ≤ (e : Int)) = true := by simp; omega
      have f6 : decide ((e : Int) ≥ (a : Int)) = true := by simp; omega
      have f7 : decide ((a : Int) ≤ (e : Int)) = true := by simp; omega
      have f8 : decide ((e : Int) < (a : Int)) = false := by simp; omega
      have g0 : decide (E < e) = false := by simp; omega
      have g1 : decide (a ≤ e ∧ e ≤ E) = true := by simp; omega
      have g2 : E - e = 0 := by omega
      rw [g2] at LC
      clear g2
      rw [g0] at SC
      rw [g1] at WC
      clear g0 g1
      have p0 : ¬ e < E := by omega
      have q0 : decide (e < E) = false := by simp; omega
      have p1 : ¬ E < e := by omega
      have q1 : decide (E < e) = false := by simp; omega
      have p2 : e ≤ E := by omega
      have q2 : decide (e ≤ E) = true := by simp; omega
      have p3 : E ≤ e := by omega
      have q3 : decide (E ≤ e) = true := by simp; omega
      have p4 : a ≤ e := by omega
      have q4 : decide (a ≤ e) = true := by simp; omega
      have p5 : ¬ e < a := by omega
      have q5 : decide (e < a) = false := by simp; omega
      clear c1 c2
      go_enter Try.func4, Try.ntmps4
      go_wp2_with fail
      refine (RE.out _).mono ?_
      rintro r w0 ⟨rfl, rfl⟩
      go_wp2_with fail
      refine (EC.out _).mono ?_
      rintro r w0 ⟨rfl, rfl⟩
      go_wp2_with fail
      refine (SC.out _).mono ?_
      rintro r w1 ⟨rfl, hb1⟩
      go_wp2_with fail
      refine (WC.out _).mono ?_
      rintro r w2 ⟨rfl, hb2⟩
      go_wp2_with fail
      refine (LC.out _).mono ?_
      rintro r w3 ⟨rfl, hb3⟩
      go_wp2_with fail
      refine (known_c _).mono ?_
      rintro r w4 ⟨rfl, hb4⟩
      go_wp2_with fail
      go_ret
      exact ⟨rfl, (hb1.trans (hb2.mono hb1.size)).trans ((hb3.mono (Nat.le_trans hb1.size hb2.size)).trans (hb4.mono (Nat.le_trans hb1.size (Nat.le_trans hb2.size hb3.size))))⟩
    · have f0 : decide ((e : Int) < (E : Int)) = false := by simp; omega
      have f1 : decide ((e : Int) > (E : Int)) = true := by simp; omega
      have f2 : decide ((E : Int) < (e : Int)) = true := by simp; omega
      have f3 : decide ((e : Int) ≤ (E : Int)) = false := by simp; omega
      have f4 : decide ((e : Int) ≥ (E : Int)) = true := by simp; omega
      have f5 : decide ((E : Int) ≤ (e : Int)) = true := by simp; omega
      have f6 : decide ((e : Int) ≥ (a : Int)) = true := by simp; omega
      have f7 : decide ((a : Int) ≤ (e : Int)) = true := by simp; omega
      have f8 : decide ((e : Int) < (a : Int)) = false := by simp; omega
      have g0 : decide (E < e) = true := by simp; omega
      have g1 : decide (a ≤ e ∧ e ≤ E) = false := by simp; omega
      have g2 : E - e = 0 := by omega
      rw [g2] at LC
      clear g2
      rw [g0] at SC
      rw [g1] at WC
      clear g0 g1
      have p0 : ¬ e < E := by omega
      have q0 : decide (e < E) = false := by simp; omega
      have p1 : E < e := by omega
      have q1 : decide (E < e) = true := by simp; omega
      have p2 : ¬ e ≤ E := by omega
      have q2 : decide (e ≤ E) = false := by simp; omega
      have p3 : E ≤ e := by omega
      have q3 : decide (E ≤ e) = true := by simp; omega
      have p4 : a ≤ e := by omega
      have q4 : decide (a ≤ e) = true := by simp; omega
      have p5 : ¬ e < a := by omega
      have q5 : decide (e < a) = false := by simp; omega
      clear c1 c2
      go_enter Try.func4, Try.ntmps4
      go_wp2_with fail
      refine (RE.out _).mono ?_
      rintro r w0 ⟨rfl, rfl⟩
      go_wp2_with fail
      refine (EC.out _).mono ?_
      rintro r w0 ⟨rfl, rfl⟩
      go_wp2_with fail
      refine (SC.out _).mono ?_
      rintro r w1 ⟨rfl, hb1⟩
      go_wp2_with fail
      refine (WC.out _).mono ?_
      rintro r w2 ⟨rfl, hb2⟩
      go_wp2_with fail
      refine (LC.out _).mono ?_
      rintro r w3 ⟨rfl, hb3⟩
      go_wp2_with fail
      refine (known_c _).mono ?_
      rintro r w4 ⟨rfl, hb4⟩
      go_wp2_with fail
      go_ret
      exact ⟨rfl, (hb1.trans (hb2.mono hb1.size)).trans ((hb3.mono (Nat.le_trans hb1.size hb2.size)).trans (hb4.mono (Nat.le_trans hb1.size (Nat.le_trans hb2.size hb3.size))))⟩
  · rcases Nat.lt_trichotomy e E with c1 | c1 | c1
    · have f0 : decide ((e : Int) < (E : Int)) = true := by simp; omega
      have f1 : decide ((e : Int) > (E : Int)) = false := by simp; omega
      have f2 : decide ((E : Int) < (e : Int)) = false := by simp; omega
      have f3 : decide ((e : Int) ≤ (E : Int)) = true := by simp; omega
      have f4 : decide ((e : Int) ≥ (E : Int)) = false := by simp; omega
      have f5 : decide ((E : Int) ≤ (e : Int)) = false := by simp; omega
      have f6 : decide ((e : Int) ≥ (a : Int)) = false := by simp; omega
      have f7 : decide ((a : Int) ≤ (e : Int)) = false := by simp; omega
      have f8 : decide ((e : Int) < (a : Int)) = true := by simp; omega
      have g0 : decide (E < e) = false := by simp; omega
      have g1 : decide (a ≤ e ∧ e ≤ E) = false := by simp; omega
      have g2 : ((E - e : Nat) : Int) = (E : Int) - (e : Int) := by omega
      rw [g2] at LC
      clear g2
      rw [g0] at SC
      rw [g1] at WC
      clear g0 g1
      have p0 : e < E := by omega
      have q0 : decide (e < E) = true := by simp; omega
      have p1 : ¬ E < e := by omega
      have q1 : decide (E < e) = false := by simp; omega
      have p2 : e ≤ E := by omega
      have q2 : decide (e ≤ E) = true := by simp; omega
      have p3 : ¬ E ≤ e := by omega
      have q3 : decide (E ≤ e) = false := by simp; omega
      have p4 : ¬ a ≤ e := by omega
      have q4 : decide (a ≤ e) = false := by simp; omega
      have p5 : e < a := by omega
      have q5 : decide (e < a) = true := by simp; omega
      clear c1 c2
      go_enter Try.func4, Try.ntmps4
      go_wp2_with fail
      refine (RE.out _).mono ?_
      rintro r w0 ⟨rfl, rfl⟩
      go_wp2_with fail
      refine (EC.out _).mono ?_
      rintro r w0 ⟨rfl, rfl⟩
      go_wp2_with fail
      refine (SC.out _).mono ?_
      rintro r w1 ⟨rfl, hb1⟩
      go_wp2_with fail
      refine (WC.out _).mono ?_
      rintro r w2 ⟨rfl, hb2⟩
      go_wp2_with fail
      refine (LC.out _).mono ?_
      rintro r w3 ⟨rfl, hb3⟩
      go_wp2_with fail
      refine (known_c _).mono ?_
      rintro r w4 ⟨rfl, hb4⟩
      go_wp2_with fail
      go_ret
      exact ⟨rfl, (hb1.trans (hb2.mono hb1.size)).trans ((hb3.mono (Nat.le_trans hb1.size hb2.size)).trans (hb4.mono (Nat.le_trans hb1.size (Nat.le_trans hb2.size hb3.size))))⟩
    · have f0 : decide ((e : Int) < (E : Int)) = false := by simp; omega
      have f1 : decide ((e : Int) > (E : Int)) = false := by simp; omega
      have f2 : decide ((E : Int) < (e : Int)) = false := by simp; omega
      have f3 : decide ((e : Int) ≤ (E : Int)) = true := by simp; omega
      have f4 : decide ((e : Int) ≥ (E : Int)) = true := by simp; omega
      have f5 : decide ((E : Int) ≤ (e : Int)) = true := by simp; omega
      have f6 : decide ((e : Int) ≥ (a : Int)) = false := by simp; omega
      have f7 : decide ((a : Int) ≤ (e : Int)) = false := by simp; omega
      have f8 : decide ((e : Int) < (a : Int)) = true := by simp; omega
      have g0 : decide (E < e) = false := by simp; omega
      have g1 : decide (a ≤ e ∧ e ≤ E) = false := by simp; omega
      have g2 : E - e = 0 := by omega
      rw [g2] at LC
      clear g2
      rw [g0] at SC
      rw [g1] at WC
      clear g0 g1
      have p0 : ¬ e < E := by omega
      have q0 : decide (e < E) = false := by simp; omega
      have p1 : ¬ E < e := by omega
      have q1 : decide (E < e) = false := by simp; omega
      have p2 : e ≤ E := by omega
      have q2 : decide (e ≤ E) = true := by simp; omega
      have p3 : E ≤ e := by omega
      have q3 : decide (E ≤ e) = true := by simp; omega
      have p4 : ¬ a ≤ e := by omega
      have q4 : decide (a ≤ e) = false := by simp; omega
      have p5 : e < a := by omega
      have q5 : decide (e < a) = true := by simp; omega
      clear c1 c2
      go_enter Try.func4, Try.ntmps4
      go_wp2_with fail
      refine (RE.out _).mono ?_
      rintro r w0 ⟨rfl, rfl⟩
      go_wp2_with fail
      refine (EC.out _).mono ?_
      rintro r w0 ⟨rfl, rfl⟩
      go_wp2_with fail
      refine (SC.out _).mono ?_
      rintro r w1 ⟨rfl, hb1⟩
      go_wp2_with fail
      refine (WC.out _).mono ?_
      rintro r w2 ⟨rfl, hb2⟩
      go_wp2_with fail
      refine (LC.out _).mono ?_
      rintro r w3 ⟨rfl, hb3⟩
      go_wp2_with fail
      refine (known_c _).mono ?_
      rintro r w4 ⟨rfl, hb4⟩
      go_wp2_with fail
      go_ret
      exact ⟨rfl, (hb1.trans (hb2.mono hb1.size)).trans ((hb3.mono (Nat.le_trans hb1.size hb2.size)).trans (hb4.mono (Nat.le_trans hb1.size (Nat.le_trans hb2.size hb3.size))))⟩
    · have f0 : decide ((e : Int) < (E : Int)) = false := by simp; omega
      have f1 : decide ((e : Int) > (E : Int)) = true := by simp; omega
      have f2 : decide ((E : Int) < (e : Int)) = true := by simp; omega
      have f3 : decide ((e : Int) ≤ (E : Int)) = false := by simp; omega
      have f4 : decide ((e : Int) ≥ (E : Int)) = true := by simp; omega
      have f5 : decide ((E : Int) ≤ (e : Int)) = true := by simp; omega
      have f6 : decide ((e : Int) ≥ (a : Int)) = false := by simp; omega
      have f7 : decide ((a : Int) ≤ (e : Int)) = false := by simp; omega
      have f8 : decide ((e : Int) < (a : Int)) = true := by simp; omega
      have g0 : decide (E < e) = true := by simp; omega
      have g1 : decide (a ≤ e ∧ e ≤ E) = false := by simp; omega
      have g2 : E - e = 0 := by omega
      rw [g2] at LC
      clear g2
      rw [g0] at SC
      rw [g1] at WC
      clear g0 g1
      have p0 : ¬ e < E := by omega
      have q0 : decide (e < E) = false := by simp; omega
      have p1 : E < e := by omega
      have q1 : decide (E < e) = true := by simp; omega
      have p2 : ¬ e ≤ E := by omega
      have q2 : decide (e ≤ E) = false := by simp; omega
      have p3 : E ≤ e := by omega
      have q3 : decide (E ≤ e) = true := by simp; omega
      have p4 : ¬ a ≤ e := by omega
      have q4 : decide (a ≤ e) = false := by simp; omega
      have p5 : e < a := by omega
      have q5 : decide (e < a) = true := by simp; omega
      clear c1 c2
      go_enter Try.func4, Try.ntmps4
      go_wp2_with fail
      refine (RE.out _).mono ?_
      rintro r w0 ⟨rfl, rfl⟩
      go_wp2_with fail
      refine (EC.out _).mono ?_
      rintro r w0 ⟨rfl, rfl⟩
      go_wp2_with fail
      refine (SC.out _).mono ?_
      rintro r w1 ⟨rfl, hb1⟩
      go_wp2_with fail
      refine (WC.out _).mono ?_
      rintro r w2 ⟨rfl, hb2⟩
      go_wp2_with fail
      refine (LC.out _).mono ?_
      rintro r w3 ⟨rfl, hb3⟩
      go_wp2_with fail
      refine (known_c _).mono ?_
      rintro r w4 ⟨rfl, hb4⟩
      go_wp2_with fail
      go_ret
      exact ⟨rfl, (hb1.trans (hb2.mono hb1.size)).trans ((hb3.mono (Nat.le_trans hb1.size hb2.size)).trans (hb4.mono (Nat.le_trans hb1.size (Nat.le_trans hb2.size hb3.size))))⟩
end Go.Proofs.Ytfjcfpippbnhhaa
